package op_test

import (
	"bytes"
	"crypto/sha256"
	"slices"
	"testing"

	"braid/api"
	"braid/op"
)

// known is operations with their messages, the chapter's example among them; their bytes are these, and then tail.
func known() []struct {
	o             api.Op
	message, tail []byte
} {
	one := ids(1)
	return []struct {
		o             api.Op
		message, tail []byte
	}{
		{api.Op{Author: 4, Stamp: 7, Act: add("a"), Sig: api.Sig{E: 5, S: 6}}, []byte{111, 4, 0, 7, 2, 1, 97}, []byte{5, 6}},
		{api.Op{Author: 4, Stamp: 7, Act: none()}, []byte{111, 4, 0, 7, 1}, []byte{0, 0}},
		{api.Op{Author: 1, Act: remove("!~"), Sig: api.Sig{E: 247, S: 248}}, []byte{111, 1, 0, 0, 3, 2, 33, 126}, []byte{247, 248, 248}},
		{api.Op{Author: 16384, Stamp: 300, Act: set("x", num(-2)), Sig: api.Sig{E: 256}}, []byte{111, 249, 64, 0, 0, 249, 1, 44, 4, 1, 'x', 1, 3}, []byte{249, 1, 0, 0}},
		{api.Op{Author: 248, Stamp: 248, Act: set("x", text("hi")), Sig: api.Sig{S: 1}}, []byte{111, 248, 248, 0, 248, 248, 4, 1, 'x', 3, 2, 'h', 'i'}, []byte{0, 1}},
		{api.Op{Author: modulus - 5, Stamp: maxStamp, Act: set("~", flt(0x0102030405060708)), Sig: api.Sig{E: order - 1, S: order - 1}}, []byte{111, 251, 59, 154, 202, 2, 0, 252, 232, 212, 165, 16, 0, 4, 1, '~', 2, 1, 2, 3, 4, 5, 6, 7, 8}, []byte{251, 29, 205, 101, 2, 251, 29, 205, 101, 2}},
		{api.Op{Author: 16, Preds: one, Act: none(), Sig: api.Sig{E: 1, S: 2}}, slices.Concat([]byte{111, 16, 1}, one[0][:], []byte{0, 1}), []byte{1, 2}},
	}
}

// P6.2: known messages and bytes.
func TestBytesKnown(t *testing.T) {
	for _, c := range known() {
		if m := mustMessage(t, c.o); !bytes.Equal(m, c.message) {
			t.Errorf("Message(%v) = %v, want %v", c.o, m, c.message)
		}
		want := slices.Concat(c.message, c.tail)
		if b := mustEncode(t, c.o); !bytes.Equal(b, want) {
			t.Errorf("Encode(%v) = %v, want %v", c.o, b, want)
		}
		if o := mustDecode(t, want); !same(o, c.o) {
			t.Errorf("Decode(%v) = %v, want %v", want, o, c.o)
		}
	}
}

// P6.2: the message, the bytes and the id as the chapter defines them.
func TestBytes(t *testing.T) {
	for _, o := range fineOps() {
		if m := mustMessage(t, o); !bytes.Equal(m, wantMessage(o)) {
			t.Errorf("Message(%v) = %v, want %v", o, m, wantMessage(o))
		}
		b := mustEncode(t, o)
		if !bytes.Equal(b, wantBytes(o)) {
			t.Errorf("Encode(%v) = %v, want %v", o, b, wantBytes(o))
		}
		if id, e := op.ID(o); e != api.OK || id != sha256.Sum256(b) {
			t.Errorf("ID(%v) = %x, %v", o, id, e)
		}
	}
}

// P6.2: E and S come behind the message, in this order, each with its own bytes.
func TestSigBytes(t *testing.T) {
	for _, s := range signatures() {
		o := most()
		o.Sig = s
		want := slices.Concat(wantMessage(o), wantNumber(uint64(s.E)), wantNumber(uint64(s.S)))
		if b := mustEncode(t, o); !bytes.Equal(b, want) {
			t.Errorf("Encode with %v = %v, want %v", s, b, want)
		}
	}
}

// P6.3: the operations with the most bytes have fewer than MaxOpBytes.
func TestMostBytes(t *testing.T) {
	if n := len(mustEncode(t, most())); n != longest || n > api.MaxOpBytes {
		t.Errorf("there are %d bytes", n)
	}
	for _, o := range fineOps() {
		if n := len(mustEncode(t, o)); n > longest {
			t.Errorf("%v has %d bytes", o, n)
		}
	}
	if o := mustDecode(t, wantBytes(most())); !same(o, most()) {
		t.Errorf("Decode gives %v", o)
	}
}
