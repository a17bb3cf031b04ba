package sign_test

import (
	"bytes"
	"math"
	"testing"

	"braid/api"
	"braid/sign"
)

// P3.3: signatures, known ones and by the definition.
func TestSign(t *testing.T) {
	for _, c := range []struct {
		secret  uint32
		message []byte
		want    api.Sig
	}{
		{1, nil, api.Sig{E: 98546630, S: 121446283}},
		{2, nil, api.Sig{E: 417407478, S: 368470044}},
		{2, []byte("abc"), api.Sig{E: 286991694, S: 235147756}},
		{77, []byte("a message"), api.Sig{E: 150141355, S: 102101386}},
		{123456789, []byte("abc"), api.Sig{E: 478761708, S: 111359585}},
		{order - 1, nil, api.Sig{E: 499355562, S: 199790360}},
		{order - 1, []byte{0}, api.Sig{E: 137906079, S: 428075752}},
		{15, bytes.Repeat([]byte{255}, maxMessage), api.Sig{E: 455402174, S: 376086871}},
		{1, make([]byte, maxMessage), api.Sig{E: 366123965, S: 495004307}},
	} {
		if s := mustSign(t, c.secret, c.message); s != c.want {
			t.Errorf("Sign(%d) of %d bytes = %+v, want %+v", c.secret, len(c.message), s, c.want)
		}
	}
	for _, x := range secrets() {
		for _, m := range messages() {
			if s, want := mustSign(t, x, m), signWith(wantNonce(x, m), x, m); s != want {
				t.Errorf("Sign(%d) of %d bytes = %+v, want %+v", x, len(m), s, want)
			}
		}
	}
}

// P3.3: a signature is right whichever number made it, not only the nonce; 0 and 1 are such numbers.
func TestVerifyOtherNonces(t *testing.T) {
	for _, x := range secrets() {
		y := mustPublic(t, x)
		for _, m := range [][]byte{nil, []byte("abc"), pattern(maxMessage)} {
			for _, k := range []uint32{0, 1, 2, 77, order - 1} {
				if e := sign.Verify(y, m, signWith(k, x, m)); e != api.OK {
					t.Errorf("Verify(%d) of %d bytes, signed with %d, = %v", y, len(m), k, e)
				}
			}
		}
	}
}

// P3.3: 1 is in the group, though no secret has it as its public key; S may be 0.
func TestVerifyOne(t *testing.T) {
	for _, m := range messages() {
		for _, s := range []uint32{0, 1, 77, order - 1} {
			c := wantChallenge(wantPower(4, uint64(s)), 1, m)
			if e := sign.Verify(1, m, api.Sig{E: c, S: s}); e != api.OK {
				t.Errorf("Verify(1) of %d bytes with S %d = %v", len(m), s, e)
			}
			if e := sign.Verify(1, m, api.Sig{E: c ^ 1, S: s}); e != api.ErrFalse {
				t.Errorf("Verify(1) of %d bytes with S %d and another E = %v", len(m), s, e)
			}
		}
	}
}

// P3.3: ErrFalse for an E or S that is no exponent, also where its remainder is right.
func TestVerifyNoExponents(t *testing.T) {
	for _, x := range secrets() {
		y := mustPublic(t, x)
		for _, m := range [][]byte{nil, []byte("abc"), pattern(maxMessage)} {
			s := mustSign(t, x, m)
			for i := uint32(1); i <= 7; i++ {
				for _, wrong := range []api.Sig{
					{E: s.E + i*order, S: s.S}, {E: s.E, S: s.S + i*order}, {E: s.E + i*order, S: s.S + i*order},
				} {
					checkFalse(t, y, m, wrong)
				}
			}
			for _, n := range []uint32{order, order + 1, modulus, math.MaxInt32, math.MaxUint32} {
				checkFalse(t, y, m, api.Sig{E: n, S: s.S})
				checkFalse(t, y, m, api.Sig{E: s.E, S: n})
				checkFalse(t, y, m, api.Sig{E: n, S: n})
			}
		}
	}
	// An S of Q has the power of 0, with which it would be right.
	for i := uint32(1); i <= 8; i++ {
		checkFalse(t, 1, nil, api.Sig{E: wantChallenge(1, 1, nil), S: i * order})
	}
}

// P3.3: ErrFalse for another E or S, another message and another key.
func TestVerifyOther(t *testing.T) {
	for _, x := range secrets() {
		y := mustPublic(t, x)
		for _, m := range [][]byte{nil, {0}, []byte("abc"), pattern(65), pattern(maxMessage - 1)} {
			s := mustSign(t, x, m)
			for _, wrong := range []api.Sig{
				{}, {E: s.S, S: s.E}, {E: s.E}, {S: s.S}, {E: order - 1 - s.E, S: s.S}, {E: s.E, S: order - 1 - s.S},
				{E: (s.E + 1) % order, S: s.S}, {E: (s.E + order - 1) % order, S: s.S},
				{E: s.E, S: (s.S + 1) % order}, {E: s.E, S: (s.S + order - 1) % order},
				{E: (s.E + 1) % order, S: uint32((uint64(s.S) + uint64(x)) % order)}, // the same r, and not its challenge
			} {
				checkFalse(t, y, m, wrong)
			}
			checkFalse(t, y, append([]byte{0}, m...), s)
			checkFalse(t, y, append(bytes.Clone(m), 0), s)
			for i := range m {
				if i < 70 || i > len(m)-3 {
					other := bytes.Clone(m)
					other[i] ^= 1
					checkFalse(t, y, other, s)
				}
			}
			for _, other := range secrets() {
				if other != x {
					checkFalse(t, mustPublic(t, other), m, s)
				}
			}
			checkFalse(t, 1, m, s)
		}
	}
}

// checkFalse fails unless a signature, which the definition does not call right, is false.
func checkFalse(t *testing.T, public uint32, m []byte, s api.Sig) {
	t.Helper()
	if wantRight(public, m, s) {
		t.Fatalf("%+v is right for %d and %d bytes by chance", s, public, len(m))
	}
	if e := sign.Verify(public, m, s); e != api.ErrFalse {
		t.Errorf("Verify(%d) of %d bytes and %+v = %v", public, len(m), s, e)
	}
}

// P3.3: any E and S with small keys, as the definition says.
func TestVerifyDefinition(t *testing.T) {
	for _, y := range []uint32{1, 2, 3, 4, 16, 250000002, modulus - 5} {
		for _, e := range []uint32{0, 1, 2, order - 1, order} {
			for _, s := range []uint32{0, 1, 2, order - 1, order} {
				want := api.ErrFalse
				if wantRight(y, nil, api.Sig{E: e, S: s}) {
					want = api.OK
				}
				if got := sign.Verify(y, nil, api.Sig{E: e, S: s}); got != want {
					t.Errorf("Verify(%d) of E %d and S %d = %v, want %v", y, e, s, got, want)
				}
			}
		}
	}
}

// P3.3: ErrArg, ErrMany and ErrFalse in this order.
func TestVerifyErrors(t *testing.T) {
	good := mustSign(t, 2, []byte("abc"))
	l := []api.Sig{good, {}, {E: good.E + order, S: good.S}, {E: good.E, S: good.S + order}, {E: math.MaxUint32, S: math.MaxUint32}}
	for _, s := range l {
		for _, y := range strangers() {
			for _, m := range append(tooLong(), nil, []byte("abc"), pattern(maxMessage)) {
				if e := sign.Verify(y, m, s); e != api.ErrArg {
					t.Errorf("Verify(%d) of %d bytes and %+v = %v", y, len(m), s, e)
				}
			}
		}
		for _, y := range []uint32{1, 2, 4, 16} {
			for _, m := range tooLong() {
				if e := sign.Verify(y, m, s); e != api.ErrMany {
					t.Errorf("Verify(%d) of %d bytes and %+v = %v", y, len(m), s, e)
				}
			}
		}
	}
}

// P3.3: a key that is no number of the group has no signatures, though its remainder by P has.
func TestVerifyStrangers(t *testing.T) {
	for _, x := range []uint32{1, 2, 77} {
		y := mustPublic(t, x)
		for i := uint32(1); i <= 3; i++ {
			stranger := y + i*modulus
			c := wantChallenge(16, stranger, nil)
			for _, s := range []api.Sig{mustSign(t, x, nil), {E: c, S: uint32((2 + uint64(c)*uint64(x)) % order)}} {
				if e := sign.Verify(stranger, nil, s); e != api.ErrArg {
					t.Errorf("Verify(%d) = %v", stranger, e)
				}
			}
		}
	}
}
