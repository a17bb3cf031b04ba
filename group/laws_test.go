package group_test

import (
	"testing"

	"braid/group"
)

// P2.4: products, powers and inverses are in the group.
func TestClosed(t *testing.T) {
	for _, a := range members() {
		for _, b := range members() {
			if c := mustMul(t, a, b); !group.Is(c) {
				t.Errorf("the product %d of %d and %d is not in the group", c, a, b)
			}
		}
		for _, n := range anyNumbers() {
			if c := mustPow(t, a, n); !group.Is(c) {
				t.Errorf("the power %d of %d with %d is not in the group", c, a, n)
			}
		}
		if c := mustInv(t, a); !group.Is(c) {
			t.Errorf("the inverse %d of %d is not in the group", c, a)
		}
	}
	for _, n := range anyNumbers() {
		if c := group.Base(n); !group.Is(c) {
			t.Errorf("the power %d of the base with %d is not in the group", c, n)
		}
	}
}

// P2.4: products depend neither on the order nor on how they are put together.
func TestProducts(t *testing.T) {
	for _, a := range members() {
		for _, b := range members() {
			ab := mustMul(t, a, b)
			if ab != mustMul(t, b, a) {
				t.Errorf("the product of %d and %d depends on the order", a, b)
			}
			for _, c := range members() {
				if mustMul(t, ab, c) != mustMul(t, a, mustMul(t, b, c)) {
					t.Errorf("the product of %d, %d and %d depends on how it is put together", a, b, c)
				}
			}
		}
	}
}

// P2.4: what is multiplied by a number and by its inverse is back.
func TestBack(t *testing.T) {
	for _, b := range members() {
		inverse := mustInv(t, b)
		if mustInv(t, inverse) != b {
			t.Errorf("the inverse of the inverse of %d is another number", b)
		}
		for _, a := range members() {
			if mustMul(t, mustMul(t, a, b), inverse) != a || mustMul(t, mustMul(t, a, inverse), b) != a {
				t.Errorf("%d, multiplied by %d and by its inverse, is not back", a, b)
			}
		}
	}
}

// P2.4: powers add, and multiply, also with Plus and Times.
func TestPowers(t *testing.T) {
	for _, a := range members() {
		for _, m := range exponents() {
			am := mustPow(t, a, uint64(m))
			for _, n := range exponents() {
				both := mustMul(t, am, mustPow(t, a, uint64(n)))
				if both != mustPow(t, a, uint64(m)+uint64(n)) || both != mustPow(t, a, uint64(mustPlus(t, m, n))) {
					t.Errorf("the powers of %d with %d and %d do not add", a, m, n)
				}
				again := mustPow(t, am, uint64(n))
				if again != mustPow(t, a, uint64(m)*uint64(n)) || again != mustPow(t, a, uint64(mustTimes(t, m, n))) {
					t.Errorf("the powers of %d with %d and %d do not multiply", a, m, n)
				}
			}
		}
	}
}

// P2.4: a power depends only on the remainder of n by Q.
func TestRemainders(t *testing.T) {
	for _, n := range anyNumbers() {
		for _, a := range members() {
			if mustPow(t, a, n) != mustPow(t, a, n%order) {
				t.Errorf("the power of %d with %d is not that with the remainder", a, n)
			}
		}
		if group.Base(n) != group.Base(n%order) || group.Base(n) != mustPow(t, 4, n) {
			t.Errorf("the power of the base with %d is wrong", n)
		}
	}
}

// P2.4: different exponents have different powers of the base, as its order is Q.
func TestOrder(t *testing.T) {
	seen := map[uint32]uint64{}
	for n := range uint64(5000) {
		for _, m := range []uint64{n, order - 1 - n} {
			p := group.Base(m)
			if at, ok := seen[p]; ok {
				t.Errorf("the powers of the base with %d and %d are the same", at, m)
			}
			seen[p] = m
		}
	}
}
