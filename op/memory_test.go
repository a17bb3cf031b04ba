package op_test

import (
	"bytes"
	"slices"
	"strings"
	"testing"
	"unsafe"

	"braid/api"
	"braid/op"
)

// roomy returns a copy of ids with others between its length and its capacity, and all of its memory.
func roomy(l []api.ID) (part, all []api.ID) {
	all = slices.Concat(l, ids(256)[250:])
	return all[:len(l)], all
}

// R2: operations stay as they were, with the memory up to the capacity of their lists, whether they are valid or not; and calls that are alike have results that are alike.
func TestReadOnly(t *testing.T) {
	for _, l := range slices.Concat(fineLists(), disorders(), longLists()[:3]) {
		for _, a := range []api.Act{none(), add("a"), set("x", text("abc")), {}} {
			part, all := roomy(l)
			before := slices.Clone(all)
			o := api.Op{Author: 4, Preds: part, Stamp: 7, Act: a, Sig: api.Sig{E: 5, S: 6}}
			for range 2 {
				op.CheckAct(o.Act)
				op.Check(o)
				op.ID(o)
				op.Verify(o)
				op.Message(o)
				op.Encode(o)
				op.Sign(2, o)
			}
			if !slices.Equal(all, before) {
				t.Errorf("%x was changed", l)
			}
			if want := (api.Op{Author: 4, Preds: l, Stamp: 7, Act: a, Sig: api.Sig{E: 5, S: 6}}); !same(o, want) {
				t.Errorf("%v has become %v", want, o)
			}
		}
	}
}

// R2: bytes stay as they were, with the memory up to their capacity, whether an operation is read or not.
func TestDecodeReadsOnly(t *testing.T) {
	for _, o := range someOps() {
		b := wantBytes(o)
		for cut := range len(b) + 1 {
			memory := slices.Concat(b, bytes.Repeat([]byte{0xa5}, 40))
			before := bytes.Clone(memory)
			one, e := op.Decode(memory[:cut])
			two, f := op.Decode(memory[:cut])
			if !bytes.Equal(memory, before) {
				t.Errorf("%v was changed", b[:cut])
			}
			if e != f || !same(one, two) {
				t.Errorf("%v is read as %v and as %v", b[:cut], one, two)
			}
		}
	}
}

// R2: what was read does not change with the bytes, or with what was read of them again.
func TestDecodeKeepsNothing(t *testing.T) {
	for _, o := range someOps() {
		b := wantBytes(o)
		one, two := mustDecode(t, b), mustDecode(t, b)
		clear(b)
		clear(two.Preds[:cap(two.Preds)])
		if !same(one, o) {
			t.Errorf("%v has become %v", o, one)
		}
	}
}

// R2: messages and bytes share no memory with each other, up to their capacity.
func TestBytesMemory(t *testing.T) {
	for _, o := range someOps() {
		for _, f := range []func(api.Op) ([]byte, api.Errno){op.Message, op.Encode} {
			first, _ := f(o)
			second, _ := f(o)
			want := bytes.Clone(second)
			all := first[:cap(first)]
			for i := range all {
				all[i] ^= 0xff
			}
			third, _ := f(o)
			if !bytes.Equal(second, want) || !bytes.Equal(third, want) {
				t.Errorf("the bytes of %v share memory", o)
			}
		}
	}
}

// R2: a signed operation shares no list with the one that was given, in neither direction, nor with another signed one.
func TestSignMemory(t *testing.T) {
	for _, l := range fineLists() {
		part, all := roomy(l)
		before := slices.Clone(all)
		o := api.Op{Preds: part, Act: none()}
		one, two := mustSign(t, 2, o), mustSign(t, 2, o)
		clear(one.Preds[:cap(one.Preds)])
		if one.Preds = append(one.Preds, ids(1)...); !slices.Equal(all, before) {
			t.Errorf("%x was changed by the signed one", l)
		}
		clear(all)
		if !slices.Equal(two.Preds, l) {
			t.Errorf("the signed one has %x instead of %x", two.Preds, l)
		}
	}
}

// R2: nor does it share its key and its text, which may be parts of longer strings.
func TestSignStrings(t *testing.T) {
	long := strings.Repeat("abc", 1000)
	o := api.Op{Act: set(long[5:20], text(long[7:30]))}
	got := mustSign(t, 2, o)
	if got.Act != o.Act {
		t.Fatalf("Sign has changed %#v to %#v", o.Act, got.Act)
	}
	if unsafe.StringData(got.Act.Key) == unsafe.StringData(o.Act.Key) {
		t.Error("the key shares memory with that of the argument")
	}
	if unsafe.StringData(got.Act.Value.Text) == unsafe.StringData(o.Act.Value.Text) {
		t.Error("the text shares memory with that of the argument")
	}
}

// R7: no operation panics, whatever stands in it, and the functions agree on which ones are valid.
func TestNoPanic(t *testing.T) {
	values := []api.Value{{}, num(-1 << 63), flt(plain), flt(1<<64 - 1), text(strings.Repeat("\xff", 31)), {Kind: 255, Num: 1, Bits: 1, Text: "a"}}
	for _, author := range []uint32{0, 4, 5, 1<<32 - 1} {
		for _, preds := range [][]api.ID{nil, ids(4), make([]api.ID, 2), ids(5)} {
			for _, stamp := range []uint64{0, maxStamp + 1, 1<<64 - 1} {
				for _, kind := range []uint8{0, 1, 2, 3, 4, 5, 255} {
					for _, key := range []string{"", "a", "\x00", strings.Repeat("\xff", 21)} {
						for _, v := range values {
							for _, s := range []api.Sig{{}, {E: 1<<32 - 1}, {S: order}} {
								checkAgree(t, api.Op{Author: author, Preds: preds, Stamp: stamp, Act: act(kind, key, v), Sig: s})
							}
						}
					}
				}
			}
		}
	}
}

// checkAgree fails unless Check tells what the other functions do with an operation.
func checkAgree(t *testing.T, o api.Op) {
	t.Helper()
	want := op.Check(o)
	b, e := op.Encode(o)
	id, f := op.ID(o)
	if e != want || f != want || (want == api.OK) != (len(b) != 0) || (want == api.OK) != (id != api.ID{}) {
		t.Errorf("%v: Check %v, Encode %v, ID %v", o, want, e, f)
	}
	if e := op.Verify(o); e != want && (want != api.OK || e != api.ErrFalse) {
		t.Errorf("%v: Check %v, Verify %v", o, want, e)
	}
	o.Sig = api.Sig{}
	unsigned := op.Check(o)
	if m, e := op.Message(o); e != unsigned || (unsigned == api.OK) != (len(m) != 0) {
		t.Errorf("%v: Check %v, Message %v", o, unsigned, e)
	}
	o.Author = 16
	withAuthor := op.Check(o)
	if _, e := op.Sign(2, o); e != withAuthor {
		t.Errorf("%v: Check %v, Sign %v", o, withAuthor, e)
	}
}
