package group_test

import (
	"math"
	"math/big"
	"testing"

	"braid/api"
	"braid/group"
)

const (
	modulus = api.GroupP
	order   = api.GroupQ
)

var (
	bigP = big.NewInt(modulus)
	bigQ = big.NewInt(order)
)

// numbers returns n numbers of 64 bits without a short period, always the same ones.
func numbers(n int) []uint64 {
	l := make([]uint64, n)
	x := uint64(88172645463325252)
	for i := range l {
		x ^= x << 13
		x ^= x >> 7
		x ^= x << 17
		l[i] = x
	}
	return l
}

// member is the definition by another way: the group are the squares, which the Jacobi symbol tells.
func member(a uint32) bool {
	return a >= 1 && a < modulus && big.Jacobi(big.NewInt(int64(a)), bigP) == 1
}

// members returns numbers of the group, its least and greatest ones among them.
func members() []uint32 {
	l := []uint32{1, 2, 3, 4, 6, modulus - 5, modulus - 10, 73741817, 250000002}
	for _, x := range numbers(12) {
		root := x%(modulus-1) + 1
		l = append(l, uint32(root*root%modulus))
	}
	return l
}

// strangers returns numbers that are not in the group; the remainders of some of them are.
func strangers() []uint32 {
	return []uint32{
		0, 5, 10, modulus - 7, modulus - 1, modulus - 2, modulus - 3, modulus - 4, // in range, and no squares
		modulus, modulus + 1, modulus + 2, modulus + 4, modulus + 5, modulus + 250000002,
		2 * modulus, 2*modulus + 1, 3*modulus + 4, 4*modulus + 1,
		math.MaxInt32, math.MaxInt32 + 1, math.MaxUint32 - 1, math.MaxUint32,
	}
}

// exponents returns numbers that are less than Q.
func exponents() []uint32 {
	l := []uint32{0, 1, 2, 3, 15, order / 2, order/2 + 1, order - 3, order - 2, order - 1}
	for _, x := range numbers(8) {
		l = append(l, uint32(x%order))
	}
	return l
}

// tooGreat returns numbers that are no exponents.
func tooGreat() []uint32 {
	return []uint32{order, order + 1, 2*order - 1, 2 * order, modulus - 1, modulus, modulus + 1, 8 * order, math.MaxInt32, math.MaxInt32 + 1, math.MaxUint32}
}

// anyNumbers returns numbers for powers, exponents and others.
func anyNumbers() []uint64 {
	l := []uint64{
		0, 1, 2, 3, 4, 14, 15, 16, order - 1, order, order + 1, 2*order - 1, 2 * order, 2*order + 1, modulus, modulus + 1,
		math.MaxUint32 - 1, math.MaxUint32, math.MaxUint32 + 1, 1<<33 + 5, order * order, order*order + 1,
		math.MaxInt64, math.MaxInt64 + 1, math.MaxUint64 - 1, math.MaxUint64,
	}
	return append(l, numbers(10)...)
}

// bigPower returns a power modulo P by math/big.
func bigPower(a uint32, n uint64) uint32 {
	x := new(big.Int).SetUint64(n)
	return uint32(x.Exp(big.NewInt(int64(a)), x, bigP).Uint64())
}

// bigProduct returns a product modulo m by math/big.
func bigProduct(a, b uint32, m *big.Int) uint32 {
	x := new(big.Int).Mul(big.NewInt(int64(a)), big.NewInt(int64(b)))
	return uint32(x.Mod(x, m).Uint64())
}

// The must functions fail where there is an error.
func mustMul(t *testing.T, a, b uint32) uint32 {
	t.Helper()
	c, e := group.Mul(a, b)
	if e != api.OK {
		t.Fatalf("Mul(%d, %d): %v", a, b, e)
	}
	return c
}

func mustPow(t *testing.T, a uint32, n uint64) uint32 {
	t.Helper()
	c, e := group.Pow(a, n)
	if e != api.OK {
		t.Fatalf("Pow(%d, %d): %v", a, n, e)
	}
	return c
}

func mustInv(t *testing.T, a uint32) uint32 {
	t.Helper()
	c, e := group.Inv(a)
	if e != api.OK {
		t.Fatalf("Inv(%d): %v", a, e)
	}
	return c
}

func mustPlus(t *testing.T, m, n uint32) uint32 {
	t.Helper()
	c, e := group.Plus(m, n)
	if e != api.OK {
		t.Fatalf("Plus(%d, %d): %v", m, n, e)
	}
	return c
}

func mustTimes(t *testing.T, m, n uint32) uint32 {
	t.Helper()
	c, e := group.Times(m, n)
	if e != api.OK {
		t.Fatalf("Times(%d, %d): %v", m, n, e)
	}
	return c
}
