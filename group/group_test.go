package group_test

import (
	"math"
	"testing"

	"braid/api"
	"braid/group"
)

// P2.1: numbers in the group, and not in it, those of the chapter's examples among them.
func TestIsKnown(t *testing.T) {
	for _, a := range members() {
		if !group.Is(a) {
			t.Errorf("%d is not in the group", a)
		}
	}
	for _, a := range strangers() {
		if group.Is(a) {
			t.Errorf("%d is in the group", a)
		}
	}
}

// P2.1: around 0, P, its multiples and the greatest number, and anywhere.
func TestIs(t *testing.T) {
	var l []uint32
	for i := range uint32(2000) {
		l = append(l, i, order-1000+i, modulus-1000+i, 2*modulus-1000+i, 3*modulus-1000+i, 4*modulus-1000+i, math.MaxUint32-i)
	}
	for _, x := range numbers(5000) {
		l = append(l, uint32(x), uint32(x%modulus))
	}
	for _, a := range l {
		if got, want := group.Is(a), member(a); got != want {
			t.Errorf("Is(%d) = %t", a, got)
		}
	}
}

// P2.1: of a number and its negative exactly one is a square.
func TestIsOneOfTwo(t *testing.T) {
	for _, a := range members() {
		if group.Is(modulus - a) {
			t.Errorf("%d and %d are in the group", a, modulus-a)
		}
	}
}

// P2.1: products of numbers of the group.
func TestMul(t *testing.T) {
	for _, c := range []struct{ a, b, want uint32 }{
		{1, 1, 1}, {2, 3, 6}, {1, 4, 4}, {4, 250000002, 1}, {268435456, 4, 73741817}, {modulus - 5, modulus - 5, 25}, {modulus - 5, modulus - 10, 50},
	} {
		if got := mustMul(t, c.a, c.b); got != c.want {
			t.Errorf("Mul(%d, %d) = %d, want %d", c.a, c.b, got, c.want)
		}
	}
	for _, a := range members() {
		for _, b := range members() {
			if got, want := mustMul(t, a, b), bigProduct(a, b, bigP); got != want {
				t.Errorf("Mul(%d, %d) = %d, want %d", a, b, got, want)
			}
		}
	}
}

// P2.1: powers with any numbers.
func TestPow(t *testing.T) {
	for _, a := range members() {
		for _, n := range anyNumbers() {
			if got, want := mustPow(t, a, n), bigPower(a, n); got != want {
				t.Errorf("Pow(%d, %d) = %d, want %d", a, n, got, want)
			}
		}
		if mustPow(t, a, 0) != 1 || mustPow(t, a, 1) != a || mustPow(t, a, order) != 1 || mustPow(t, a, order+1) != a {
			t.Errorf("the powers of %d with 0, 1, Q or Q + 1 are wrong", a)
		}
	}
}

// P2.1: powers are those that come by multiplying again and again.
func TestPowSmall(t *testing.T) {
	for _, a := range members() {
		want := uint32(1)
		for n := range uint64(100) {
			if got := mustPow(t, a, n); got != want {
				t.Errorf("Pow(%d, %d) = %d, want %d", a, n, got, want)
			}
			want = uint32(uint64(want) * uint64(a) % modulus)
		}
	}
}

// P2.1: the inverse is in the group, and the product with it is 1.
func TestInv(t *testing.T) {
	for _, c := range []struct{ a, want uint32 }{{1, 1}, {2, 500000004}, {3, 333333336}, {4, 250000002}, {250000002, 4}} {
		if got := mustInv(t, c.a); got != c.want {
			t.Errorf("Inv(%d) = %d, want %d", c.a, got, c.want)
		}
	}
	for _, a := range members() {
		inverse := mustInv(t, a)
		if !member(inverse) || bigProduct(a, inverse, bigP) != 1 {
			t.Errorf("Inv(%d) = %d", a, inverse)
		}
	}
}

// P2.1: ErrArg for what is not in the group, on either side and with any exponent; no result with it.
func TestStrangers(t *testing.T) {
	for _, a := range strangers() {
		for _, b := range append(members(), strangers()...) {
			if c, e := group.Mul(a, b); e != api.ErrArg || c != 0 {
				t.Errorf("Mul(%d, %d) = %d, %v", a, b, c, e)
			}
			if c, e := group.Mul(b, a); e != api.ErrArg || c != 0 {
				t.Errorf("Mul(%d, %d) = %d, %v", b, a, c, e)
			}
		}
		for _, n := range anyNumbers() {
			if c, e := group.Pow(a, n); e != api.ErrArg || c != 0 {
				t.Errorf("Pow(%d, %d) = %d, %v", a, n, c, e)
			}
		}
		if c, e := group.Inv(a); e != api.ErrArg || c != 0 {
			t.Errorf("Inv(%d) = %d, %v", a, c, e)
		}
	}
}

// P2.2: powers of the base with any numbers.
func TestBase(t *testing.T) {
	for _, c := range []struct {
		n    uint64
		want uint32
	}{
		{0, 1}, {1, 4}, {2, 16}, {14, 268435456}, {15, 73741817}, {16, 294967268},
		{order - 1, 250000002}, {order, 1}, {order + 1, 4}, {2 * order, 1}, {order * order, 1}, {order*order + 15, 73741817},
	} {
		if got := group.Base(c.n); got != c.want {
			t.Errorf("Base(%d) = %d, want %d", c.n, got, c.want)
		}
	}
	for _, n := range anyNumbers() {
		if got, want := group.Base(n), bigPower(4, n); got != want {
			t.Errorf("Base(%d) = %d, want %d", n, got, want)
		}
	}
}
