package op_test

import (
	"math"
	"math/big"
	"testing"

	"braid/api"
	"braid/op"
)

// P6.1: acts of each kind, with each key and value that they may have.
func TestCheckAct(t *testing.T) {
	for _, a := range fineActs() {
		if e := op.CheckAct(a); e != api.OK {
			t.Errorf("CheckAct of the act of %s = %v", name(api.Op{Act: a}), e)
		}
	}
}

// P6.1: ErrBad for kinds that there are not, for what is not zero outside a kind, and for keys and values that are not valid.
func TestCheckActBad(t *testing.T) {
	for _, a := range badActs() {
		if e := op.CheckAct(a); e != api.ErrBad {
			t.Errorf("CheckAct of the act of %s = %v", name(api.Op{Act: a}), e)
		}
	}
}

// P6.1: operations with each part at its ends.
func TestCheck(t *testing.T) {
	for _, o := range fineOps() {
		if e := op.Check(o); e != api.OK {
			t.Errorf("Check(%v) = %v", o, e)
		}
	}
	for _, s := range signatures() {
		o := most()
		o.Sig = s
		if e := op.Check(o); e != api.OK {
			t.Errorf("Check(%v) = %v", o, e)
		}
	}
}

// P6.1: an author is a number of the group: a square modulo P that is less than P.
func TestCheckAuthors(t *testing.T) {
	l := append(strangers(), authors()...)
	for a := range uint32(3000) {
		l = append(l, a, modulus-a, modulus+a, order-a, order+a, 2*modulus+a, math.MaxUint32-a, a*1000003)
	}
	for _, a := range l {
		want := api.ErrBad
		if a < modulus && big.Jacobi(big.NewInt(int64(a)), bigP) == 1 {
			want = api.OK
		}
		if e := op.Check(api.Op{Author: a, Act: none()}); e != want {
			t.Errorf("Check with the author %d = %v, want %v", a, e, want)
		}
	}
}

// refused is an operation with the error that Check has for it, and the one that it has if Sig is zero.
type refused struct {
	o        api.Op
	want     api.Errno
	unsigned api.Errno
}

// refusedOps returns operations with one thing that is not as it has to be.
func refusedOps() []refused {
	base := api.Op{Author: 4, Preds: ids(2), Stamp: 7, Act: add("a"), Sig: api.Sig{E: 5, S: 6}}
	l := []refused{{api.Op{}, api.ErrBad, api.ErrBad}}
	put := func(want, unsigned api.Errno, change func(o *api.Op)) {
		o := base
		change(&o)
		l = append(l, refused{o, want, unsigned})
	}
	for _, preds := range longLists() {
		put(api.ErrMany, api.ErrMany, func(o *api.Op) { o.Preds = preds })
	}
	for _, preds := range disorders() {
		put(api.ErrOrder, api.ErrOrder, func(o *api.Op) { o.Preds = preds })
	}
	for _, author := range strangers() {
		put(api.ErrBad, api.ErrBad, func(o *api.Op) { o.Author = author })
	}
	for _, stamp := range noStamps() {
		put(api.ErrBad, api.ErrBad, func(o *api.Op) { o.Stamp = stamp })
	}
	for _, a := range badActs() {
		put(api.ErrBad, api.ErrBad, func(o *api.Op) { o.Act = a })
	}
	for _, n := range noExponents() {
		for _, s := range []api.Sig{{E: n}, {S: n}, {E: n, S: n}, {E: 5, S: n}, {E: n, S: 6}} {
			put(api.ErrBad, api.OK, func(o *api.Op) { o.Sig = s })
		}
	}
	return l
}

// P6.1, P6.2, P6.4: each function that takes an operation has the errors of Check, and nothing beside them.
func TestRefused(t *testing.T) {
	for _, c := range refusedOps() {
		checkErrors(t, c)
	}
}

// P6.1: ErrMany comes before ErrOrder, and this before ErrBad, whatever else is wrong.
func TestErrorOrder(t *testing.T) {
	for _, preds := range []struct {
		l    []api.ID
		want api.Errno
	}{
		{nil, api.OK}, {ids(4), api.OK}, {disorders()[0], api.ErrOrder}, {make([]api.ID, 4), api.ErrOrder}, {ids(5), api.ErrMany}, {make([]api.ID, 5), api.ErrMany},
	} {
		for bits := range 16 {
			o := api.Op{Author: 4, Preds: preds.l, Act: none()}
			if bits&1 != 0 {
				o.Author = 5
			}
			if bits&2 != 0 {
				o.Stamp = maxStamp + 1
			}
			if bits&4 != 0 {
				o.Act = api.Act{}
			}
			if bits&8 != 0 {
				o.Sig.S = order
			}
			c := refused{o, preds.want, preds.want}
			if preds.want == api.OK && bits != 0 {
				c.want = api.ErrBad
			}
			if preds.want == api.OK && bits&7 != 0 {
				c.unsigned = api.ErrBad
			}
			if c.want != api.OK {
				checkErrors(t, c)
			}
		}
	}
}

// checkErrors fails unless each function has its error for an operation, with zero values.
func checkErrors(t *testing.T, c refused) {
	t.Helper()
	if e := op.Check(c.o); e != c.want {
		t.Errorf("Check of %s = %v, want %v", name(c.o), e, c.want)
	}
	if e := op.Verify(c.o); e != c.want {
		t.Errorf("Verify of %s = %v, want %v", name(c.o), e, c.want)
	}
	if b, e := op.Encode(c.o); e != c.want || len(b) != 0 {
		t.Errorf("Encode of %s = %v, %v, want %v", name(c.o), b, e, c.want)
	}
	if id, e := op.ID(c.o); e != c.want || id != (api.ID{}) {
		t.Errorf("ID of %s = %x, %v, want %v", name(c.o), id, e, c.want)
	}
	m, e := op.Message(c.o)
	if e != c.unsigned || (e != api.OK && len(m) != 0) {
		t.Errorf("Message of %s = %v, %v, want %v", name(c.o), m, e, c.unsigned)
	}
}

// The helpers have what they are meant to have: the bytes just beside those that a key may have.
func TestHelpers(t *testing.T) {
	for _, key := range []string{"", " ", "\x7f", "\x00", "\x80", "\xff"} {
		found := false
		for _, other := range badKeys() {
			found = found || other == key
		}
		if !found {
			t.Errorf("%q is missing", key)
		}
	}
	if len(fineOps()) < 400 || len(refusedOps()) < 2000 {
		t.Errorf("there are only %d and %d operations", len(fineOps()), len(refusedOps()))
	}
}
