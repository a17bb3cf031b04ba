package group_test

import (
	"math/big"
	"testing"

	"braid/api"
	"braid/group"
)

// P2.3: sums of exponents modulo Q.
func TestPlus(t *testing.T) {
	for _, c := range []struct{ m, n, want uint32 }{
		{0, 0, 0}, {0, 1, 1}, {1, 2, 3}, {500000002, 2, 1}, {order - 1, 1, 0}, {order - 1, 0, order - 1},
		{order - 2, 1, order - 1}, {order - 1, order - 1, order - 2}, {order / 2, order/2 + 1, 0},
	} {
		if got := mustPlus(t, c.m, c.n); got != c.want {
			t.Errorf("Plus(%d, %d) = %d, want %d", c.m, c.n, got, c.want)
		}
	}
	for _, m := range exponents() {
		for _, n := range exponents() {
			x := big.NewInt(int64(m) + int64(n))
			want := uint32(x.Mod(x, bigQ).Uint64())
			if got := mustPlus(t, m, n); got != want {
				t.Errorf("Plus(%d, %d) = %d, want %d", m, n, got, want)
			}
		}
	}
}

// P2.3: products of exponents modulo Q.
func TestTimes(t *testing.T) {
	for _, c := range []struct{ m, n, want uint32 }{
		{0, 0, 0}, {0, order - 1, 0}, {1, order - 1, order - 1}, {2, 3, 6}, {250000002, 2, 1},
		{order - 1, 2, order - 2}, {order - 1, order - 1, 1}, {order - 2, order - 3, 6},
	} {
		if got := mustTimes(t, c.m, c.n); got != c.want {
			t.Errorf("Times(%d, %d) = %d, want %d", c.m, c.n, got, c.want)
		}
	}
	for _, m := range exponents() {
		for _, n := range exponents() {
			if got, want := mustTimes(t, m, n), bigProduct(m, n, bigQ); got != want {
				t.Errorf("Times(%d, %d) = %d, want %d", m, n, got, want)
			}
		}
	}
}

// P2.3: ErrArg for what is no exponent, on either side; no result with it.
func TestTooGreat(t *testing.T) {
	for _, m := range tooGreat() {
		for _, n := range append(exponents(), tooGreat()...) {
			if c, e := group.Plus(m, n); e != api.ErrArg || c != 0 {
				t.Errorf("Plus(%d, %d) = %d, %v", m, n, c, e)
			}
			if c, e := group.Plus(n, m); e != api.ErrArg || c != 0 {
				t.Errorf("Plus(%d, %d) = %d, %v", n, m, c, e)
			}
			if c, e := group.Times(m, n); e != api.ErrArg || c != 0 {
				t.Errorf("Times(%d, %d) = %d, %v", m, n, c, e)
			}
			if c, e := group.Times(n, m); e != api.ErrArg || c != 0 {
				t.Errorf("Times(%d, %d) = %d, %v", n, m, c, e)
			}
		}
	}
}
