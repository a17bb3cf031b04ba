package sign_test

import (
	"bytes"
	"testing"

	"braid/api"
	"braid/group"
	"braid/sign"
)

// P3.4: what is signed verifies, with numbers E and S that are exponents.
func TestSignedVerifies(t *testing.T) {
	for _, x := range secrets() {
		y := mustPublic(t, x)
		for _, m := range messages() {
			s := mustSign(t, x, m)
			if s.E >= order || s.S >= order {
				t.Errorf("Sign(%d) of %d bytes = %+v", x, len(m), s)
			}
			if e := sign.Verify(y, m, s); e != api.OK {
				t.Errorf("Verify(%d) of %d bytes = %v", y, len(m), e)
			}
		}
	}
	for x := uint32(1); x < 400; x++ {
		for _, secret := range []uint32{x, order - x, 1234567 * x % order} {
			m := pattern(int(x) % 70)
			if e := sign.Verify(mustPublic(t, secret), m, mustSign(t, secret, m)); e != api.OK {
				t.Errorf("Verify of what %d signed = %v", secret, e)
			}
		}
	}
}

// P3.4: a secret signs a message always in the same way, whatever comes in between.
func TestSameSignature(t *testing.T) {
	first := map[[2]int]api.Sig{}
	for range 2 {
		for i, x := range secrets() {
			for j, m := range messages() {
				s := mustSign(t, x, m)
				if at, ok := first[[2]int{i, j}]; ok && at != s {
					t.Errorf("Sign(%d) of %d bytes = %+v and %+v", x, len(m), at, s)
				}
				first[[2]int{i, j}] = s
				if mustSign(t, x, bytes.Clone(m)) != s || mustNonce(t, x, m) != mustNonce(t, x, bytes.Clone(m)) {
					t.Errorf("Sign(%d) of %d bytes depends on where they are", x, len(m))
				}
			}
		}
	}
}

// P3.4: different secrets have different public keys.
func TestDifferentKeys(t *testing.T) {
	seen := map[uint32]uint32{}
	for i := uint32(1); i <= 5000; i++ {
		for _, x := range []uint32{i, order/2 - i, order/2 + i, order - i} {
			y := mustPublic(t, x)
			if at, ok := seen[y]; ok && at != x {
				t.Errorf("%d and %d have the public key %d", at, x, y)
			}
			seen[y] = x
		}
	}
}

// P3.4: the power of the base with S is the product of that with the nonce, and of the power of the public key with E.
func TestAnswer(t *testing.T) {
	for _, x := range secrets() {
		y := mustPublic(t, x)
		if !group.Is(y) {
			t.Errorf("Public(%d) = %d is not in the group", x, y)
		}
		for _, m := range messages() {
			s := mustSign(t, x, m)
			r := group.Base(uint64(mustNonce(t, x, m)))
			if s.E != mustChallenge(t, r, y, m) {
				t.Errorf("E of Sign(%d) of %d bytes is not the challenge", x, len(m))
			}
			power, e := group.Pow(y, uint64(s.E))
			if e != api.OK {
				t.Fatal(e)
			}
			product, e := group.Mul(r, power)
			if e != api.OK || product != group.Base(uint64(s.S)) {
				t.Errorf("Sign(%d) of %d bytes: %d, %v, want %d", x, len(m), product, e, group.Base(uint64(s.S)))
			}
		}
	}
}
