package op_test

import (
	"encoding/hex"
	"math"
	"testing"

	"braid/api"
	"braid/op"
)

// toSign returns operations of each kind of act, with lists and stamps at their ends.
func toSign() []api.Op {
	l := someOps()
	for _, preds := range fineLists() {
		l = append(l, api.Op{Preds: preds, Act: remove("~")})
	}
	for _, stamp := range stamps() {
		l = append(l, api.Op{Stamp: stamp, Act: none()})
	}
	for _, v := range fineValues() {
		l = append(l, api.Op{Act: set("x", v)})
	}
	return l
}

// P6.4 and P6.2: known signatures and ids, the chapter's example among them.
func TestSignKnown(t *testing.T) {
	for _, c := range []struct {
		secret uint32
		o      api.Op
		author uint32
		sig    api.Sig
		id     string
	}{
		{2, api.Op{Act: none()}, 16, api.Sig{E: 468742489, S: 362424759}, "bbcf5499811dbd1a5c1de3f6ea86ff09afb775fb8b18de33be45e06ea47c90c6"},
		{7, api.Op{Stamp: 300, Act: set("x", num(-2))}, 16384, api.Sig{E: 242536241, S: 39198827}, "09c62683a9bfa1dd429e8146036d39429f768056e5e0f2aa51aa4b0c1b2e794f"},
		{5, api.Op{Stamp: maxStamp, Act: add("a")}, 1024, api.Sig{E: 363433697, S: 329429268}, "54b98cbddfd20f64a1963ef15f9fd02b464834fa09a5c3c0c29a6866744018fc"},
		{order - 1, api.Op{Preds: []api.ID{{}}, Stamp: 7, Act: remove("!~")}, 250000002, api.Sig{E: 117509621, S: 212023863}, "c62978f6ee9a3ade721b6f51b5db75e9afc82d09047c8534ddd2d363f2d8bb3f"},
	} {
		got, want := mustSign(t, c.secret, c.o), c.o
		want.Author, want.Sig = c.author, c.sig
		if !same(got, want) {
			t.Errorf("Sign(%d, %v) = %v, want %v", c.secret, c.o, got, want)
		}
		if id, e := op.ID(got); e != api.OK || hex.EncodeToString(id[:]) != c.id {
			t.Errorf("ID(%v) = %x, %v, want %s", got, id, e, c.id)
		}
	}
}

// P6.4: the author is the public key of the secret, and the signature that of the message with this author; all else stays.
func TestSign(t *testing.T) {
	for _, secret := range secrets() {
		for _, o := range toSign() {
			got, want := mustSign(t, secret, o), wantSigned(secret, o)
			if !same(got, want) {
				t.Errorf("Sign(%d, %v) = %v, want %v", secret, o, got, want)
			}
			if e := op.Verify(got); e != api.OK {
				t.Errorf("Verify(%v) = %v", got, e)
			}
		}
	}
}

// P6.4: Author and Sig that are there do not matter, whatever they are.
func TestSignOther(t *testing.T) {
	for _, o := range someOps() {
		want := wantSigned(77, o)
		for _, author := range append(strangers(), authors()...) {
			for _, s := range append(signatures(), api.Sig{E: order}, api.Sig{S: order}, api.Sig{E: math.MaxUint32, S: math.MaxUint32}) {
				o.Author, o.Sig = author, s
				if got := mustSign(t, 77, o); !same(got, want) {
					t.Errorf("Sign(77, %v) = %v, want %v", o, got, want)
				}
			}
		}
	}
}

// P6.4: the error of the secret comes first, whatever the operation is.
func TestSignNoSecret(t *testing.T) {
	l := someOps()
	for _, c := range refusedOps() {
		l = append(l, c.o)
	}
	for _, secret := range noSecrets() {
		for _, o := range l {
			if got, e := op.Sign(secret, o); e != api.ErrArg || !isZero(got) {
				t.Errorf("Sign(%d) of %s = %s, %v", secret, name(o), name(got), e)
			}
		}
	}
}

// P6.4: then the error that Check has with the new author, and no signature.
func TestSignRefused(t *testing.T) {
	for _, c := range refusedOps() {
		o := c.o
		o.Author = 16
		o.Sig = api.Sig{}
		want := op.Check(o)
		got, e := op.Sign(2, c.o)
		if e != want || (e != api.OK && !isZero(got)) {
			t.Errorf("Sign of %s = %s, %v, want %v", name(c.o), name(got), e, want)
		}
		for _, author := range []uint32{5, 16} {
			c.o.Author, c.o.Sig = author, api.Sig{E: order, S: order}
			if _, e := op.Sign(2, c.o); e != want {
				t.Errorf("Sign of %s = %v, want %v", name(c.o), e, want)
			}
		}
	}
	for _, c := range []struct {
		o    api.Op
		want api.Errno
	}{
		{api.Op{}, api.ErrBad},
		{api.Op{Preds: ids(5), Act: none()}, api.ErrMany},
		{api.Op{Preds: make([]api.ID, 5)}, api.ErrMany},
		{api.Op{Preds: make([]api.ID, 2)}, api.ErrOrder},
		{api.Op{Stamp: maxStamp + 1, Act: none()}, api.ErrBad},
		{api.Op{Act: add("")}, api.ErrBad},
		{api.Op{Act: set("x", api.Value{})}, api.ErrBad},
	} {
		if got, e := op.Sign(2, c.o); e != c.want || !isZero(got) {
			t.Errorf("Sign(2, %v) = %v, %v, want %v", c.o, got, e, c.want)
		}
	}
}

// checkFalse fails unless an operation is valid, and not signed.
func checkFalse(t *testing.T, o api.Op) {
	t.Helper()
	if e := op.Check(o); e != api.OK {
		t.Fatalf("Check(%v) = %v", o, e)
	}
	if e := op.Verify(o); e != api.ErrFalse {
		t.Errorf("Verify(%v) = %v", o, e)
	}
}

// P6.4: ErrFalse where anything is other than it was signed.
func TestVerifyOther(t *testing.T) {
	for _, secret := range secrets() {
		for _, o := range toSign() {
			o = wantSigned(secret, o)
			if e := op.Verify(o); e != api.OK {
				t.Errorf("Verify(%v) = %v", o, e)
			}
			for _, change := range []func(o *api.Op){
				func(o *api.Op) { o.Sig.E = (o.Sig.E + 1) % order },
				func(o *api.Op) { o.Sig.S = (o.Sig.S + 1) % order },
				func(o *api.Op) { o.Sig.S = (o.Sig.S + order - 1) % order },
				func(o *api.Op) { o.Sig.E, o.Sig.S = o.Sig.S, o.Sig.E },
				func(o *api.Op) { o.Sig = api.Sig{} },
				func(o *api.Op) { o.Author = wantPower(4, uint64(secret)+1) },
				func(o *api.Op) { o.Author = 1 },
				func(o *api.Op) { o.Stamp = (o.Stamp + 1) % (maxStamp + 1) },
				func(o *api.Op) { o.Stamp = (o.Stamp + 1<<32) % (maxStamp + 1) },
				func(o *api.Op) { o.Preds = ids(12)[10:] },
				func(o *api.Op) { o.Act = add("other") },
				func(o *api.Op) { o.Act = set("x", num(77)) },
			} {
				other := o
				change(&other)
				checkFalse(t, other)
			}
		}
	}
}

// P6.4: ErrFalse where only a part of the act, or of an id, is another one.
func TestVerifyParts(t *testing.T) {
	o := wantSigned(5, api.Op{Preds: ids(3), Stamp: 9, Act: set("key", num(-2))})
	for _, a := range []api.Act{none(), add("key"), remove("key"), set("kez", num(-2)), set("ke", num(-2)), set("key", num(2)), set("key", text("-2")), set("key", flt(3))} {
		other := o
		other.Act = a
		checkFalse(t, other)
	}
	for i := range 3 {
		for at := range 32 {
			other := o
			other.Preds = ids(3)
			// The first bytes, which order the ids, stay in order.
			other.Preds[i][at] ^= 64
			if i < 2 && at == 0 {
				continue
			}
			checkFalse(t, other)
		}
		other := o
		other.Preds = append(ids(3)[:i], ids(3)[i+1:]...)
		checkFalse(t, other)
	}
	other := o
	other.Preds = ids(4)
	checkFalse(t, other)
}

// P6.4: an E or S that is no exponent is not valid, also where its remainder is right: ErrBad, and not ErrFalse.
func TestVerifyNoExponents(t *testing.T) {
	for _, secret := range secrets() {
		for _, o := range someOps() {
			o = wantSigned(secret, o)
			for i := uint32(1); i < 8; i++ {
				for _, s := range []api.Sig{{E: o.Sig.E + i*order, S: o.Sig.S}, {E: o.Sig.E, S: o.Sig.S + i*order}} {
					other := o
					other.Sig = s
					if e := op.Verify(other); e != api.ErrBad {
						t.Errorf("Verify(%v) = %v", other, e)
					}
				}
			}
		}
	}
}

// P6.4: an author that is not in the group is not valid: ErrBad, and not layer 3's ErrArg.
func TestVerifyStrangers(t *testing.T) {
	for _, author := range strangers() {
		for _, s := range signatures() {
			if e := op.Verify(api.Op{Author: author, Act: none(), Sig: s}); e != api.ErrBad {
				t.Errorf("Verify with the author %d = %v", author, e)
			}
		}
	}
}

// P6.4: whatever is right for the author and the message is signed, also for the author 1, whom no secret has.
func TestVerifyOne(t *testing.T) {
	for _, o := range someOps() {
		o.Author = 1
		m := wantMessage(o)
		for _, s := range []uint32{0, 1, 77, order - 1} {
			o.Sig = api.Sig{E: wantChallenge(wantPower(4, uint64(s)), 1, m), S: s}
			if e := op.Verify(o); e != api.OK {
				t.Errorf("Verify(%v) = %v", o, e)
			}
			o.Sig.E ^= 1
			checkFalse(t, o)
		}
	}
}
