package judge_test

import (
	"bytes"
	"math/rand"
	"slices"
	"testing"

	"braid/api"
	"braid/digest"
	"braid/judge"
	"braid/op"
)

// P8.3: bytes are fine exactly if layer 6 reads an operation from them that it finds signed; the id is layer 1's digest of them, and layer 6's of the operation.
func TestFineIsSigned(t *testing.T) {
	draw := rand.New(rand.NewSource(83))
	whole := someOps()
	for range 10000 {
		b := drawn(draw, whole)
		o, e := op.Decode(b)
		signed := e == api.OK && op.Verify(o) == api.OK
		got, id, _ := judge.Of(b)
		if judge.Fine(b) != signed {
			t.Errorf("Fine of %s = %v", some(b), !signed)
		}
		if !signed {
			continue
		}
		sum, e := digest.Sum(b)
		own, f := op.ID(o)
		if e != api.OK || f != api.OK || id != sum || id != own || !same(got, o) {
			t.Errorf("%s have %v with the id %x", some(b), got, id)
		}
	}
}

// P8.3: what a secret signs is fine, in just the bytes that layer 6 gives it.
func TestSignedIsFine(t *testing.T) {
	for _, plain := range plainOps() {
		for _, secret := range secrets() {
			o, e := op.Sign(secret, plain)
			b, f := op.Encode(o)
			if e != api.OK || f != api.OK {
				t.Fatalf("Sign of %v by %d: %v, %v", plain, secret, e, f)
			}
			checkFine(t, b, o)
			got, _, _ := judge.Of(b)
			if again, e := op.Encode(got); e != api.OK || !bytes.Equal(again, b) {
				t.Errorf("%v have become %v", b, again)
			}
		}
	}
}

// P8.3: the bytes are the only ones for an operation: none that differ in anything have it too, or its id.
func TestOwnBytes(t *testing.T) {
	seen := map[api.ID][]byte{}
	back := map[string][]byte{}
	put := func(b []byte) {
		o, id, verdict := judge.Of(b)
		if verdict != fine {
			return
		}
		name := string(wantBytes(o))
		if was, ok := seen[id]; ok && !bytes.Equal(was, b) {
			t.Errorf("%s and %s have one id", some(was), some(b))
		}
		if was, ok := back[name]; ok && !bytes.Equal(was, b) {
			t.Errorf("%s and %s have one operation", some(was), some(b))
		}
		seen[id], back[name] = bytes.Clone(b), bytes.Clone(b)
	}
	for _, plain := range plainOps() {
		for _, secret := range secrets() {
			put(wantBytes(wantSigned(secret, plain)))
		}
	}
	draw := rand.New(rand.NewSource(84))
	whole := someOps()
	for range 10000 {
		put(drawn(draw, whole))
	}
	if len(seen) != len(back) || len(seen) < len(plainOps())*len(secrets()) {
		t.Errorf("%d ids and %d operations", len(seen), len(back))
	}
}

// P8.3: numbers in longer bytes than they need would be the same operation; such bytes are not fine.
func TestNoOtherBytes(t *testing.T) {
	o := wantSigned(5, api.Op{Stamp: 7, Act: add("a")})
	e, s := wantNumber(uint64(o.Sig.E)), wantNumber(uint64(o.Sig.S))
	parts := [][]byte{{111}, {249, 4, 0}, {0}, {7}, {2}, {1}, {97}, e, s}
	checkFine(t, slices.Concat(parts...), o)
	for i, other := range map[int][]byte{
		1: {250, 0, 4, 0}, 2: {248, 0}, 3: {248, 7}, 4: {248, 2}, 5: {248, 1},
		7: slices.Concat([]byte{252, 0}, e[1:]), 8: slices.Concat([]byte{252, 0}, s[1:]),
	} {
		l := slices.Clone(parts)
		l[i] = other
		checkVerdict(t, slices.Concat(l...), malformed)
	}
}

// P8.3: the verdict on bytes is the same whatever was judged before.
func TestNothingKept(t *testing.T) {
	bytesOf, verdicts := kinds()
	for i, first := range bytesOf {
		for j, second := range bytesOf {
			for range 2 {
				checkVerdict(t, first, verdicts[i])
				checkVerdict(t, second, verdicts[j])
			}
		}
	}
	// The predecessors that are named need not be known.
	a := wantSigned(5, api.Op{Act: none()})
	_, id, _ := judge.Of(wantBytes(a))
	b := wantSigned(2, api.Op{Preds: []api.ID{id}, Act: none()})
	checkList(t, [][]byte{wantBytes(b), wantBytes(a), wantBytes(b)}, []uint8{fine, fine, fine})
	checkFine(t, wantBytes(b), b)
}

// R7: bytes of any length, and lists of any, have verdicts without a panic.
func TestNoPanic(t *testing.T) {
	for c := range 256 {
		for n := range 300 {
			checkLike(t, bytes.Repeat([]byte{byte(c)}, n))
			checkLike(t, append([]byte{111, 4, 0, 7, 4, 1, 'x'}, bytes.Repeat([]byte{byte(c)}, n)...))
		}
	}
	// Counts that no memory has.
	for _, n := range []uint64{5, 247, 248, 1 << 32, 1 << 58, 1 << 59, 1<<59 + 1, 1 << 63, 1<<64 - 1} {
		for _, first := range [][]byte{{111, 4}, {111, 4, 0, 7, 2}, {111, 4, 0, 7, 4, 1, 'x', 3}} {
			checkVerdict(t, slices.Concat(first, wantNumber(n), bytes.Repeat([]byte{97}, 300)), malformed)
		}
	}
}
