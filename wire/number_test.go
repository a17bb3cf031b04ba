package wire_test

import (
	"bytes"
	"math"
	"math/big"
	"slices"
	"testing"

	"braid/api"
	"braid/wire"
)

// P4.1: the numbers at the ends of each length, those of the chapter's examples among them.
func TestNumberKnown(t *testing.T) {
	for _, c := range []struct {
		n    uint64
		want []byte
	}{
		{0, []byte{0}},
		{1, []byte{1}},
		{246, []byte{246}},
		{247, []byte{247}},
		{248, []byte{248, 248}},
		{249, []byte{248, 249}},
		{255, []byte{248, 255}},
		{256, []byte{249, 1, 0}},
		{0xffff, []byte{249, 255, 255}},
		{0x10000, []byte{250, 1, 0, 0}},
		{0x010203, []byte{250, 1, 2, 3}},
		{0xffffff, []byte{250, 255, 255, 255}},
		{0x1000000, []byte{251, 1, 0, 0, 0}},
		{0xffffffff, []byte{251, 255, 255, 255, 255}},
		{0x100000000, []byte{252, 1, 0, 0, 0, 0}},
		{0xffffffffff, []byte{252, 255, 255, 255, 255, 255}},
		{0x10000000000, []byte{253, 1, 0, 0, 0, 0, 0}},
		{0xffffffffffff, []byte{253, 255, 255, 255, 255, 255, 255}},
		{0x1000000000000, []byte{254, 1, 0, 0, 0, 0, 0, 0}},
		{0xffffffffffffff, []byte{254, 255, 255, 255, 255, 255, 255, 255}},
		{0x100000000000000, []byte{255, 1, 0, 0, 0, 0, 0, 0, 0}},
		{0x0102030405060708, []byte{255, 1, 2, 3, 4, 5, 6, 7, 8}},
		{math.MaxInt64, []byte{255, 127, 255, 255, 255, 255, 255, 255, 255}},
		{math.MaxInt64 + 1, []byte{255, 128, 0, 0, 0, 0, 0, 0, 0}},
		{math.MaxUint64, bytes.Repeat([]byte{255}, 9)},
	} {
		if b := wire.Number(c.n); !bytes.Equal(b, c.want) {
			t.Errorf("Number(%d) = %v, want %v", c.n, b, c.want)
		}
		if n, used, e := wire.ReadNumber(c.want); e != api.OK || n != c.n || used != len(c.want) {
			t.Errorf("ReadNumber(%v) = %d, %d, %v, want %d", c.want, n, used, e, c.n)
		}
	}
}

// P4.1: any numbers, whatever stands behind them.
func TestNumbers(t *testing.T) {
	for _, n := range numbers() {
		want := wantNumber(n)
		if b := wire.Number(n); !bytes.Equal(b, want) {
			t.Errorf("Number(%d) = %v, want %v", n, b, want)
		}
		for _, tail := range tails() {
			m, used, e := wire.ReadNumber(slices.Concat(want, tail))
			if e != api.OK || m != n || used != len(want) {
				t.Errorf("ReadNumber of %v and %d bytes = %d, %d, %v", want, len(tail), m, used, e)
			}
		}
	}
}

// P4.1: the ends of each length with a sign, those of the chapter's examples among them.
func TestSignedKnown(t *testing.T) {
	for _, c := range []struct {
		n    int64
		want []byte
	}{
		{0, []byte{0}},
		{-1, []byte{1}},
		{1, []byte{2}},
		{-2, []byte{3}},
		{123, []byte{246}},
		{-124, []byte{247}},
		{124, []byte{248, 248}},
		{-125, []byte{248, 249}},
		{127, []byte{248, 254}},
		{-128, []byte{248, 255}},
		{128, []byte{249, 1, 0}},
		{-129, []byte{249, 1, 1}},
		{-0x8000, []byte{249, 255, 255}},
		{0x8000, []byte{250, 1, 0, 0}},
		{-0x800000, []byte{250, 255, 255, 255}},
		{0x800000, []byte{251, 1, 0, 0, 0}},
		{math.MinInt32, []byte{251, 255, 255, 255, 255}},
		{math.MaxInt32 + 1, []byte{252, 1, 0, 0, 0, 0}},
		{-0x80000000000000, []byte{254, 255, 255, 255, 255, 255, 255, 255}},
		{0x80000000000000, []byte{255, 1, 0, 0, 0, 0, 0, 0, 0}},
		{math.MaxInt64, []byte{255, 255, 255, 255, 255, 255, 255, 255, 254}},
		{math.MinInt64 + 1, []byte{255, 255, 255, 255, 255, 255, 255, 255, 253}},
		{math.MinInt64, bytes.Repeat([]byte{255}, 9)},
	} {
		if b := wire.Signed(c.n); !bytes.Equal(b, c.want) {
			t.Errorf("Signed(%d) = %v, want %v", c.n, b, c.want)
		}
		if n, used, e := wire.ReadSigned(c.want); e != api.OK || n != c.n || used != len(c.want) {
			t.Errorf("ReadSigned(%v) = %d, %d, %v, want %d", c.want, n, used, e, c.n)
		}
	}
}

// wantFold is the fold of a number, by numbers that have no greatest one.
func wantFold(n int64) uint64 {
	f := new(big.Int).Mul(big.NewInt(n), big.NewInt(2))
	if n < 0 {
		f.Sub(f.Neg(f), big.NewInt(1))
	}
	return f.Uint64()
}

// P4.1: any numbers with a sign, whatever stands behind them.
func TestSigned(t *testing.T) {
	for _, n := range signs() {
		want := wantNumber(wantFold(n))
		if b := wire.Signed(n); !bytes.Equal(b, want) {
			t.Errorf("Signed(%d) = %v, want %v", n, b, want)
		}
		for _, tail := range tails() {
			m, used, e := wire.ReadSigned(slices.Concat(want, tail))
			if e != api.OK || m != n || used != len(want) {
				t.Errorf("ReadSigned of %v and %d bytes = %d, %d, %v", want, len(tail), m, used, e)
			}
		}
	}
}

// P4.1: ErrForm where there is no number: nothing, bytes that end too early, and bytes that are too long.
func TestNoNumber(t *testing.T) {
	for _, b := range noNumbers() {
		noNumber(t, b)
	}
	for _, b := range [][]byte{
		{248, 0}, {248, 1}, {248, 247}, {248, 247, 9},
		{249, 0, 0}, {249, 0, 247}, {249, 0, 248}, {249, 0, 255}, {249, 0, 255, 255},
		{250, 0, 1, 0}, {250, 0, 255, 255}, {250, 0, 0, 255}, {251, 0, 255, 255, 255}, {252, 0, 255, 255, 255, 255},
		{253, 0, 255, 255, 255, 255, 255}, {254, 0, 255, 255, 255, 255, 255, 255}, {255, 0, 255, 255, 255, 255, 255, 255, 255},
		{255, 0, 0, 0, 0, 0, 0, 0, 0}, {248}, {249, 1}, {255}, {255, 1, 2, 3, 4, 5, 6, 7},
	} {
		noNumber(t, b)
	}
}

// P4.1: what is too long is no number whatever stands behind it.
func TestTooLongNumber(t *testing.T) {
	for _, n := range []uint64{0, 1, 246, 247, 248, 255, 256, 0xffff, 0x10000, 0xffffffffffffff} {
		for k := len(wantNumber(n)); k <= 8; k++ {
			for _, tail := range tails() {
				noNumber(t, slices.Concat(longer(n, k), tail))
			}
		}
	}
}
