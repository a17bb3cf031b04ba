package value_test

import (
	"bytes"
	"math"
	"slices"
	"strings"
	"testing"

	"braid/api"
	"braid/value"
)

// P5.4: known bytes, the chapter's example among them.
func TestBytesKnown(t *testing.T) {
	for _, c := range []struct {
		v    api.Value
		want []byte
	}{
		{num(0), []byte{1, 0}},
		{num(-1), []byte{1, 1}},
		{num(1), []byte{1, 2}},
		{num(7), []byte{1, 14}},
		{num(123), []byte{1, 246}},
		{num(-124), []byte{1, 247}},
		{num(124), []byte{1, 248, 248}},
		{num(128), []byte{1, 249, 1, 0}},
		{num(-200), []byte{1, 249, 1, 143}},
		{num(math.MaxInt64), []byte{1, 255, 255, 255, 255, 255, 255, 255, 255, 254}},
		{num(math.MinInt64), []byte{1, 255, 255, 255, 255, 255, 255, 255, 255, 255}},
		{flt(0), []byte{2, 0, 0, 0, 0, 0, 0, 0, 0}},
		{flt(1), []byte{2, 0, 0, 0, 0, 0, 0, 0, 1}},
		{flt(signBit), []byte{2, 128, 0, 0, 0, 0, 0, 0, 0}},
		{flt(0x4010000000000000), []byte{2, 64, 16, 0, 0, 0, 0, 0, 0}},
		{flt(0x0102030405060708), []byte{2, 1, 2, 3, 4, 5, 6, 7, 8}},
		{flt(0xfff0000000000000), []byte{2, 255, 240, 0, 0, 0, 0, 0, 0}},
		{flt(plain), []byte{2, 127, 248, 0, 0, 0, 0, 0, 0}},
		{text(""), []byte{3, 0}},
		{text("hi"), []byte{3, 2, 'h', 'i'}},
		{text(" ~"), []byte{3, 2, 32, 126}},
		{text(strings.Repeat("z", 30)), append([]byte{3, 30}, bytes.Repeat([]byte{'z'}, 30)...)},
	} {
		if b, e := value.Encode(c.v); e != api.OK || !bytes.Equal(b, c.want) {
			t.Errorf("Encode(%v) = %v, %v, want %v", c.v, b, e, c.want)
		}
		if v, used, e := value.Decode(c.want); e != api.OK || v != c.v || used != len(c.want) {
			t.Errorf("Decode(%v) = %v, %d, %v, want %v", c.want, v, used, e, c.v)
		}
	}
}

// P5.4 and P5.5: each value is read back from its bytes, whatever stands behind them.
func TestReadBack(t *testing.T) {
	for _, v := range fineValues() {
		b, e := value.Encode(v)
		if e != api.OK || !bytes.Equal(b, wantBytes(v)) {
			t.Errorf("Encode(%v) = %v, %v", v, b, e)
		}
		for _, tail := range tails() {
			got, used, e := value.Decode(slices.Concat(b, tail))
			if e != api.OK || got != v || used != len(b) {
				t.Errorf("Decode of %v and %d bytes = %v, %d, %v", b, len(tail), got, used, e)
			}
		}
	}
}

// P5.5: each value has bytes of its own, with which the bytes of no other one begin.
func TestOwnBytes(t *testing.T) {
	var all [][]byte
	for _, v := range fineValues() {
		b, _ := value.Encode(v)
		all = append(all, b)
	}
	// In this order a first part would stand directly before something that begins with it.
	slices.SortFunc(all, bytes.Compare)
	for i, b := range all[1:] {
		if bytes.HasPrefix(b, all[i]) {
			t.Errorf("%v begins with %v", b, all[i])
		}
	}
}

// P5.4: Check's error, and nothing with it, also for a text that is too long.
func TestEncodeBad(t *testing.T) {
	for _, v := range badValues() {
		if b, e := value.Encode(v); e != api.ErrBad || len(b) != 0 {
			t.Errorf("Encode(%v) = %v, %v", v, b, e)
		}
	}
}

// P5.4: no value begins with bytes that are cut anywhere; the rest stands up to the capacity, and is not looked at.
func TestDecodeCut(t *testing.T) {
	noValue(t, nil)
	noValue(t, []byte{})
	for _, v := range fineValues() {
		b := wantBytes(v)
		for i := range b {
			noValue(t, b[:i])
			noValue(t, bytes.Clone(b[:i]))
		}
	}
}

// P5.4: no value has a kind that there is not.
func TestDecodeKind(t *testing.T) {
	for kind := range 256 {
		if kind >= 1 && kind <= 3 {
			continue
		}
		noValue(t, []byte{byte(kind)})
		for _, v := range []api.Value{num(0), num(-200), flt(one), text(""), text("abcdefgh")} {
			noValue(t, append([]byte{byte(kind)}, wantBytes(v)[1:]...))
		}
		noValue(t, append([]byte{byte(kind)}, make([]byte, 40)...))
	}
}

// P5.4: the bytes of a number, or of how many bytes a text has, are the shortest ones.
func TestDecodeTooLong(t *testing.T) {
	for _, b := range [][]byte{
		{1, 248, 0}, {1, 248, 247}, {1, 249, 0, 248}, {1, 249, 0, 255}, {1, 250, 0, 1, 0},
		{1, 255, 0, 0, 0, 0, 0, 0, 0, 0}, {1, 255, 0, 255, 255, 255, 255, 255, 255, 255},
		{3, 248, 0}, {3, 248, 1, 'a'}, {3, 249, 0, 1, 'a'}, {3, 255, 0, 0, 0, 0, 0, 0, 0, 1, 'a'},
	} {
		for _, tail := range tails() {
			noValue(t, slices.Concat(b, tail))
		}
	}
}

// P5.4: bits that are not plain are no float, though their class is FloatNone like that of the plain ones.
func TestDecodeNotPlain(t *testing.T) {
	for _, bits := range noneBits() {
		b := wantBytes(flt(bits))
		if bits == plain {
			if v, used, e := value.Decode(b); e != api.OK || v != flt(plain) || used != 9 {
				t.Errorf("Decode(%v) = %v, %d, %v", b, v, used, e)
			}
			continue
		}
		for _, tail := range tails() {
			noValue(t, slices.Concat(b, tail))
		}
	}
}

// P5.4: texts that are not allowed, or too long, are none, though their strings could be read.
func TestDecodeNoText(t *testing.T) {
	for _, s := range badTexts() {
		noValue(t, wantBytes(text(s)))
		noValue(t, append(wantBytes(text(s)), 'a'))
	}
	for _, n := range []int{31, 32, 100, 247} {
		noValue(t, append([]byte{3, byte(n)}, bytes.Repeat([]byte{'a'}, n+5)...))
	}
	noValue(t, append([]byte{3, 248, 248}, bytes.Repeat([]byte{'a'}, 248)...))
	noValue(t, append([]byte{3, 249, 1, 0}, bytes.Repeat([]byte{'a'}, 256)...))
	// No memory has as many bytes as these numbers tell.
	noValue(t, append([]byte{3}, bytes.Repeat([]byte{255}, 40)...))
	noValue(t, append([]byte{3, 255, 128, 0, 0, 0, 0, 0, 0, 0}, bytes.Repeat([]byte{'a'}, 40)...))
}

// anyBytes returns bytes of which some can be read and others can not.
func anyBytes() [][]byte {
	var l [][]byte
	x := uint32(1)
	next := func() byte {
		x = x*1664525 + 1013904223
		return byte(x >> 24)
	}
	for range 20000 {
		b := []byte{next() % 5, next()}
		if next()%2 == 0 {
			b[1] %= 32
		}
		for range next() % 40 {
			b = append(b, 30+next()%98)
		}
		l = append(l, b)
	}
	for i := range 256 {
		for j := range 256 {
			l = append(l, []byte{1, byte(i), byte(j)}, []byte{2, byte(i), byte(j), 0, 0, 0, 0, 0, byte(j)}, []byte{3, byte(i), byte(j)}, []byte{3, 2, byte(i), byte(j), 7})
		}
	}
	return l
}

// P5.4: whatever is read is valid, and has just the bytes that were read.
func TestAnyBytes(t *testing.T) {
	kinds := [4]int{}
	for _, b := range anyBytes() {
		v, used, e := value.Decode(b)
		if e != api.OK {
			noValue(t, b)
			continue
		}
		kinds[v.Kind]++
		again, e := value.Encode(v)
		if e != api.OK || value.Check(v) != api.OK || used > len(b) || !bytes.Equal(again, b[:used]) {
			t.Fatalf("Decode(%v) = %v, %d; it has the bytes %v, %v", b, v, used, again, e)
		}
	}
	for kind, n := range kinds[1:] {
		if n < 100 {
			t.Errorf("of the kind %d only %d were read", kind+1, n)
		}
	}
}

// P5.4: values stand one behind the other, and are read so.
func TestOneBehindTheOther(t *testing.T) {
	var b []byte
	for _, v := range fineValues() {
		one, _ := value.Encode(v)
		b = append(b, one...)
	}
	for _, want := range fineValues() {
		v, used, e := value.Decode(b)
		if e != api.OK || v != want {
			t.Fatalf("instead of %v there is %v, %v", want, v, e)
		}
		b = b[used:]
	}
	if len(b) != 0 {
		t.Errorf("%d bytes are left", len(b))
	}
}
