package value_test

import (
	"bytes"
	"slices"
	"strings"
	"testing"
	"unsafe"

	"braid/api"
	"braid/value"
)

// R2: bytes that are read stay as they were, with the memory up to their capacity, whether a value is read or not.
func TestDecodeReadsOnly(t *testing.T) {
	for _, whole := range [][]byte{nil, {0}, {1, 2}, {1, 249, 1, 143}, {1, 249, 0, 0}, wantBytes(flt(one)), wantBytes(flt(plain + 1)), wantBytes(text("abc")), wantBytes(text("a\n"))} {
		for cut := range len(whole) + 1 {
			memory := slices.Concat(whole, bytes.Repeat([]byte{0xa5}, 40))
			before := bytes.Clone(memory)
			v, used, e := value.Decode(memory[:cut])
			again, usedAgain, eAgain := value.Decode(memory[:cut])
			if !bytes.Equal(memory, before) {
				t.Errorf("%v was changed", whole[:cut])
			}
			if v != again || used != usedAgain || e != eAgain {
				t.Errorf("%v is read as %v and as %v", whole[:cut], v, again)
			}
		}
	}
}

// R2: a text that was read does not change with the bytes.
func TestDecodeKeepsNothing(t *testing.T) {
	b := wantBytes(text("abcdef"))
	v, _, e := value.Decode(b)
	clear(b)
	if e != api.OK || v != text("abcdef") {
		t.Errorf("the text has become %v, %v", v, e)
	}
}

// R2: bytes share no memory with each other, up to their capacity.
func TestEncodeMemory(t *testing.T) {
	for _, v := range []api.Value{num(0), num(-1), num(200), num(-1 << 63), flt(0), flt(plain), text(""), text("abc"), text(strings.Repeat("a", 30))} {
		first, _ := value.Encode(v)
		second, _ := value.Encode(v)
		all := first[:cap(first)]
		for i := range all {
			all[i] ^= 0xff
		}
		if !bytes.Equal(second, wantBytes(v)) {
			t.Errorf("the bytes of %v share memory", v)
		}
		if third, _ := value.Encode(v); !bytes.Equal(third, wantBytes(v)) {
			t.Errorf("the bytes of %v were changed by a caller", v)
		}
	}
}

// R2: a text shares no memory with the string that it was made of.
func TestTextMemory(t *testing.T) {
	long := strings.Repeat("abc", 1000)
	for _, s := range []string{"a", long[:30], long[7:20]} {
		v, e := value.Text(s)
		if e != api.OK || v != text(s) {
			t.Fatalf("Text(%q) = %v, %v", s, v, e)
		}
		if unsafe.StringData(v.Text) == unsafe.StringData(s) {
			t.Errorf("the text %q shares memory with its argument", s)
		}
	}
}

// R7: no value panics, whatever stands in it, and whatever it is compared with.
func TestNoPanic(t *testing.T) {
	var l []api.Value
	for _, kind := range []uint8{0, 1, 2, 3, 4, 255} {
		for _, n := range []int64{0, -1 << 63, 1<<63 - 1} {
			for _, bits := range []uint64{0, plain, 1<<64 - 1} {
				for _, s := range []string{"", "a", "\x00", strings.Repeat("\xff", 31)} {
					l = append(l, api.Value{Kind: kind, Num: n, Bits: bits, Text: s})
				}
			}
		}
	}
	for _, a := range l {
		fine := value.Check(a) == api.OK
		if b, e := value.Encode(a); (e == api.OK) != fine || fine != (len(b) != 0) {
			t.Errorf("Encode(%v) = %v, %v", a, b, e)
		}
		for _, b := range l {
			c, e := value.Cmp(a, b)
			both := fine && value.Check(b) == api.OK
			if (e == api.OK) != both || (e == api.OK && (c == 0) != (a == b)) {
				t.Errorf("Cmp(%v, %v) = %d, %v", a, b, c, e)
			}
		}
	}
}
