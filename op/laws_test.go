package op_test

import (
	"bytes"
	"math"
	"testing"

	"braid/api"
	"braid/op"
)

// P6.5: Decode of Encode is the operation, and Encode of Decode are the bytes; so each has an id of its own.
func TestThereAndBack(t *testing.T) {
	seen := map[api.ID][]byte{}
	for _, o := range fineOps() {
		for _, s := range []api.Sig{o.Sig, {}, {E: 1}, {S: 1}, {E: 249, S: 1}, {E: order - 1, S: order - 1}} {
			other := o
			other.Sig = s
			b := mustEncode(t, other)
			back := mustDecode(t, b)
			if !same(back, other) || !bytes.Equal(mustEncode(t, back), b) {
				t.Errorf("%v has become %v", other, back)
			}
			id, e := op.ID(other)
			if backID, f := op.ID(back); e != api.OK || f != api.OK || backID != id {
				t.Errorf("the id of %v is %x, %v, and %x, %v", other, id, e, backID, f)
			}
			if at, ok := seen[id]; ok && !bytes.Equal(at, b) {
				t.Errorf("%v has the id of another one", other)
			}
			seen[id] = b
		}
	}
}

// P6.5: what was signed is signed, also after it was bytes, and signing it again changes nothing.
func TestSignedIsSigned(t *testing.T) {
	for _, secret := range secrets() {
		for _, o := range fineOps()[:200] {
			signed := mustSign(t, secret, o)
			if e := op.Verify(signed); e != api.OK {
				t.Errorf("Verify(%v) = %v", signed, e)
			}
			if e := op.Verify(mustDecode(t, mustEncode(t, signed))); e != api.OK {
				t.Errorf("Verify of the bytes of %v = %v", signed, e)
			}
			if again := mustSign(t, secret, signed); !same(again, signed) {
				t.Errorf("%v is signed as %v", signed, again)
			}
		}
	}
}

// P6.5: the message does not depend on Sig, even where this is not valid.
func TestMessageWithoutSig(t *testing.T) {
	for _, o := range fineOps() {
		want := mustMessage(t, o)
		for _, s := range append(signatures(), api.Sig{E: order}, api.Sig{S: order}, api.Sig{E: math.MaxUint32, S: math.MaxUint32}) {
			o.Sig = s
			if m := mustMessage(t, o); !bytes.Equal(m, want) {
				t.Errorf("Message(%v) = %v, want %v", o, m, want)
			}
		}
	}
}

// P6.5: operations that differ in anything but Sig have different messages.
func TestOwnMessages(t *testing.T) {
	seen := map[string]api.Op{}
	for _, o := range fineOps() {
		m := string(mustMessage(t, o))
		if at, ok := seen[m]; ok {
			t.Errorf("%v and %v have one message", at, o)
		}
		seen[m] = o
	}
}
