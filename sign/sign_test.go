package sign_test

import (
	"bytes"
	"math"
	"testing"

	"braid/api"
	"braid/sign"
)

// P3.1: secrets are the numbers from 1 to Q - 1.
func TestCheck(t *testing.T) {
	for _, x := range secrets() {
		if e := sign.Check(x); e != api.OK {
			t.Errorf("Check(%d) = %v", x, e)
		}
	}
	for _, x := range noSecrets() {
		if e := sign.Check(x); e != api.ErrArg {
			t.Errorf("Check(%d) = %v", x, e)
		}
	}
}

// P3.1: public keys, those of the chapter's examples among them.
func TestPublic(t *testing.T) {
	for _, c := range []struct{ secret, want uint32 }{
		{1, 4}, {2, 16}, {15, 73741817}, {77, 315842700}, {123456789, 554030327}, {order - 1, 250000002},
	} {
		if y := mustPublic(t, c.secret); y != c.want {
			t.Errorf("Public(%d) = %d, want %d", c.secret, y, c.want)
		}
	}
	for _, x := range secrets() {
		if y, want := mustPublic(t, x), wantPower(4, uint64(x)); y != want {
			t.Errorf("Public(%d) = %d, want %d", x, y, want)
		}
	}
}

// P3.1: nonces, known ones and by the definition.
func TestNonce(t *testing.T) {
	for _, c := range []struct {
		secret  uint32
		message string
		want    uint32
	}{
		{1, "", 22899653}, {2, "", 33655091}, {2, "abc", 161164371}, {77, "a message", 41217120},
		{123456789, "abc", 300162271}, {order - 1, "", 199145919}, {order - 1, "\x00", 65981828},
	} {
		if k := mustNonce(t, c.secret, []byte(c.message)); k != c.want {
			t.Errorf("Nonce(%d, %q) = %d, want %d", c.secret, c.message, k, c.want)
		}
	}
	for _, x := range secrets() {
		for _, m := range messages() {
			k, want := mustNonce(t, x, m), wantNonce(x, m)
			if k != want {
				t.Errorf("Nonce(%d) of %d bytes = %d, want %d", x, len(m), k, want)
			}
			// So it is a secret itself.
			if e := sign.Check(k); e != api.OK {
				t.Errorf("Nonce(%d) of %d bytes = %d", x, len(m), k)
			}
		}
	}
}

// P3.2: challenges of any numbers, known ones and by the definition.
func TestChallenge(t *testing.T) {
	for _, c := range []struct {
		r, public uint32
		message   string
		want      uint32
	}{
		{0, 0, "", 333450796}, {1, 4, "", 223808926}, {4, 1, "", 134152143}, {modulus, order, "abc", 217702501},
		{math.MaxUint32, math.MaxUint32, "abc", 89042617}, {0x01020304, 0x05060708, "\t", 148465743},
	} {
		if got := mustChallenge(t, c.r, c.public, []byte(c.message)); got != c.want {
			t.Errorf("Challenge(%d, %d, %q) = %d, want %d", c.r, c.public, c.message, got, c.want)
		}
	}
	numbers := append([]uint32{1, 3, 4, 16, 250000002, modulus - 5}, strangers()...)
	for _, r := range numbers {
		for _, y := range numbers {
			for _, m := range [][]byte{nil, {0}, []byte("abc"), pattern(46), pattern(47), pattern(55)} {
				if got, want := mustChallenge(t, r, y, m), wantChallenge(r, y, m); got != want {
					t.Errorf("Challenge(%d, %d) of %d bytes = %d, want %d", r, y, len(m), got, want)
				}
			}
		}
		for _, m := range messages() {
			if got, want := mustChallenge(t, r, 5, m), wantChallenge(r, 5, m); got != want {
				t.Errorf("Challenge(%d, 5) of %d bytes = %d, want %d", r, len(m), got, want)
			}
		}
	}
}

// P3.1 and P3.3: Check's error comes before that of the message, and no result with it.
func TestNoSecrets(t *testing.T) {
	for _, x := range noSecrets() {
		if y, e := sign.Public(x); e != api.ErrArg || y != 0 {
			t.Errorf("Public(%d) = %d, %v", x, y, e)
		}
		for _, m := range append(messages(), tooLong()...) {
			if k, e := sign.Nonce(x, m); e != api.ErrArg || k != 0 {
				t.Errorf("Nonce(%d) of %d bytes = %d, %v", x, len(m), k, e)
			}
			if s, e := sign.Sign(x, m); e != api.ErrArg || s != (api.Sig{}) {
				t.Errorf("Sign(%d) of %d bytes = %+v, %v", x, len(m), s, e)
			}
		}
	}
}

// P3.1 to P3.3: ErrMany for messages of more than MaxPiece - 9 bytes, and no result with it.
func TestTooLong(t *testing.T) {
	for _, m := range tooLong() {
		for _, x := range secrets() {
			if k, e := sign.Nonce(x, m); e != api.ErrMany || k != 0 {
				t.Errorf("Nonce(%d) of %d bytes = %d, %v", x, len(m), k, e)
			}
			if s, e := sign.Sign(x, m); e != api.ErrMany || s != (api.Sig{}) {
				t.Errorf("Sign(%d) of %d bytes = %+v, %v", x, len(m), s, e)
			}
		}
		for _, r := range strangers() {
			if c, e := sign.Challenge(r, 4, m); e != api.ErrMany || c != 0 {
				t.Errorf("Challenge(%d, 4) of %d bytes = %d, %v", r, len(m), c, e)
			}
			if c, e := sign.Challenge(4, r, m); e != api.ErrMany || c != 0 {
				t.Errorf("Challenge(4, %d) of %d bytes = %d, %v", r, len(m), c, e)
			}
		}
	}
}

// R2: messages stay as they were, with the memory up to their capacity, and that memory does not matter.
func TestReadsOnly(t *testing.T) {
	for _, n := range []int{0, 1, 46, 47, 64, maxMessage} {
		all := append(pattern(n), bytes.Repeat([]byte{0xa5}, 80)...)
		before := bytes.Clone(all)
		m := all[:n]
		if mustNonce(t, 77, m) != wantNonce(77, pattern(n)) || mustChallenge(t, 5, 6, m) != wantChallenge(5, 6, pattern(n)) {
			t.Errorf("what stands behind a message of %d bytes matters", n)
		}
		s := mustSign(t, 77, m)
		if e := sign.Verify(mustPublic(t, 77), m, s); e != api.OK {
			t.Errorf("Verify of %d bytes = %v", n, e)
		}
		sign.Verify(mustPublic(t, 78), m, s)
		if !bytes.Equal(all, before) {
			t.Errorf("a message of %d bytes was changed", n)
		}
	}
}
