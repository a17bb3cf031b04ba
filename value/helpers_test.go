package value_test

import (
	"encoding/binary"
	"math"
	"math/big"
	"slices"
	"strings"
	"testing"

	"braid/api"
	"braid/value"
)

// Bits of floats, to the base 16 as the chapter writes them.
const (
	signBit  = 0x8000000000000000
	plain    = 0x7ff8000000000000
	infinite = 0x7ff0000000000000
	one      = 0x3ff0000000000000
	two53    = 0x4340000000000000
	two62    = 0x43d0000000000000
	two63    = 0x43e0000000000000
)

// noneBits returns bits of the class FloatNone, the plain ones among them.
func noneBits() []uint64 {
	l := []uint64{plain, infinite + 1, infinite + 5, plain - 1, plain + 1, 0x7fffffffffffffff, 0xfff0000000000001, 0xfff7ffffffffffff, 0xfff8000000000000, 0xfff8000000000001, math.MaxUint64}
	for i := range 52 {
		l = append(l, infinite|1<<i, signBit|infinite|1<<i)
	}
	return l
}

// edgeBits returns the bits at the ends of each class but FloatNone, and those of some whole numbers, with what lies just beside each.
func edgeBits() []uint64 {
	l := []uint64{0, 1, 2, 3, 0x000fffffffffffff, 0x0010000000000000, 0x0010000000000001, 0x7fefffffffffffff, infinite}
	for _, b := range []uint64{one, 0x3fe0000000000000, 0x3ff8000000000000, 0x3fd5555555555555, 0x4000000000000000, 0x4012000000000000, 0x4014000000000000, two53, two62, two63, 0x4330000000000000, 0x4350000000000000, 0x43f0000000000000} {
		l = append(l, b-2, b-1, b, b+1, b+2)
	}
	for i := range 64 {
		b := math.Float64bits(float64(uint64(1) << i))
		l = append(l, b-1, b, b+1, 1<<i&(infinite-1))
	}
	for _, b := range slices.Clone(l) {
		l = append(l, b|signBit)
	}
	slices.Sort(l)
	return slices.Compact(l)
}

// anyBits returns bits of all classes.
func anyBits() []uint64 {
	l := append(edgeBits(), noneBits()...)
	x := uint64(1)
	for range 500 {
		x = x*6364136223846793005 + 1442695040888963407
		l = append(l, x, x>>1&^(1<<62)|1<<61)
	}
	return l
}

// numbers returns numbers around 0 and around the powers of 2, with their negatives, and any ones.
func numbers() []int64 {
	l := []int64{math.MinInt64, math.MinInt64 + 1, math.MaxInt64, math.MaxInt64 - 1}
	for n := range int64(20) {
		l = append(l, n, -n)
	}
	for i := range 63 {
		for d := range int64(7) {
			n := int64(1)<<i + d - 3
			l = append(l, n, -n)
		}
	}
	// Floats of this size are 2, 4, 512 and 1024 apart; the last ones are those before 2^63.
	for _, d := range []int64{511, 512, 513, 1023, 1024, 1025, 2047, 2048, 2049} {
		l = append(l, 1<<62+d, -1<<62-d, math.MaxInt64-d, math.MinInt64+d)
	}
	x := uint64(1)
	for i := range 200 {
		x = x*6364136223846793005 + 1442695040888963407
		l = append(l, int64(x)>>(i%64))
	}
	slices.Sort(l)
	return slices.Compact(l)
}

// fineTexts returns texts that are allowed, in their order.
func fineTexts() []string {
	full := strings.Repeat("~", api.MaxText)
	l := []string{"", " ", "  ", " ~", "!", "0", "A", "AB", "ABC", "AC", "B", "a", "aa", "b", "}", "~", "~ ", "~~", full[:29], full[:29] + " ", full}
	for c := byte(32); c <= 126; c++ {
		l = append(l, string([]byte{c}), "x"+string([]byte{c}), strings.Repeat(string([]byte{c}), api.MaxText))
	}
	slices.Sort(l)
	return slices.Compact(l)
}

// badTexts returns texts of at most MaxText bytes with one that is not allowed.
func badTexts() []string {
	var l []string
	for c := range 256 {
		if c >= 32 && c <= 126 {
			continue
		}
		s := string([]byte{byte(c)})
		l = append(l, s, "a"+s, s+"a", strings.Repeat("a", 29)+s, s+strings.Repeat("a", 29), strings.Repeat("a", 14)+s+strings.Repeat("b", 15))
	}
	return append(l, "é", "a\u00a0b", "\u2028", "line\n", "tab\t", "nul\x00")
}

// longTexts returns texts of more than MaxText bytes, with and without bytes that are not allowed.
func longTexts() []string {
	var l []string
	for _, n := range []int{api.MaxText + 1, api.MaxText + 2, 247, 248, 256, 10000, 200000} {
		l = append(l, strings.Repeat("a", n), strings.Repeat(" ", n), strings.Repeat("\x1f", n), strings.Repeat("a", n-1)+"\x7f", "\x00"+strings.Repeat("a", n-1))
	}
	return append(l, strings.Repeat("é", 16))
}

// fineValues returns valid values of each kind, each one once, made without the package that is tested.
func fineValues() []api.Value {
	var l []api.Value
	for _, n := range numbers() {
		l = append(l, api.Value{Kind: api.ValNumber, Num: n})
	}
	for _, b := range edgeBits() {
		l = append(l, api.Value{Kind: api.ValFloat, Bits: b})
	}
	l = append(l, api.Value{Kind: api.ValFloat, Bits: plain})
	for _, s := range fineTexts() {
		l = append(l, api.Value{Kind: api.ValText, Text: s})
	}
	return l
}

// badValues returns values that are not valid.
func badValues() []api.Value {
	l := []api.Value{
		{},
		{Kind: api.ValNumber, Bits: 1},
		{Kind: api.ValNumber, Bits: signBit},
		{Kind: api.ValNumber, Text: " "},
		{Kind: api.ValNumber, Num: 5, Text: "5"},
		{Kind: api.ValNumber, Num: 1, Bits: one},
		{Kind: api.ValFloat, Num: 1},
		{Kind: api.ValFloat, Num: -1, Bits: one},
		{Kind: api.ValFloat, Bits: one, Text: "1"},
		{Kind: api.ValFloat, Bits: plain, Num: math.MinInt64},
		{Kind: api.ValText, Num: 1},
		{Kind: api.ValText, Bits: 1},
		{Kind: api.ValText, Num: -1, Text: "a"},
		{Kind: api.ValText, Bits: plain, Text: "a"},
	}
	for kind := range 256 {
		if kind < 1 || kind > 3 {
			k := uint8(kind)
			l = append(l, api.Value{Kind: k}, api.Value{Kind: k, Num: 1}, api.Value{Kind: k, Bits: one}, api.Value{Kind: k, Text: "a"})
		}
	}
	for _, b := range noneBits() {
		if b != plain {
			l = append(l, api.Value{Kind: api.ValFloat, Bits: b})
		}
	}
	for _, s := range append(badTexts(), longTexts()...) {
		l = append(l, api.Value{Kind: api.ValText, Text: s})
	}
	return l
}

// wantNumber is the bytes of a number with its sign, by numbers that have no greatest one.
func wantNumber(n int64) []byte {
	f := new(big.Int).Mul(big.NewInt(n), big.NewInt(2))
	if n < 0 {
		f.Sub(f.Neg(f), big.NewInt(1))
	}
	b := f.Bytes()
	if f.Cmp(big.NewInt(247)) <= 0 {
		return []byte{byte(f.Uint64())}
	}
	return append([]byte{byte(247 + len(b))}, b...)
}

// wantBytes is the bytes of a valid value.
func wantBytes(v api.Value) []byte {
	switch v.Kind {
	case api.ValNumber:
		return append([]byte{1}, wantNumber(v.Num)...)
	case api.ValFloat:
		return binary.BigEndian.AppendUint64([]byte{2}, v.Bits)
	}
	return append([]byte{3, byte(len(v.Text))}, v.Text...)
}

// tails are what may stand behind what is read.
func tails() [][]byte {
	return [][]byte{nil, {}, {0}, {9}, {255}, {1, 2, 3}, []byte(strings.Repeat("a", 40))}
}

// mustCmp fails where Cmp has an error.
func mustCmp(t *testing.T, a, b api.Value) int {
	t.Helper()
	c, e := value.Cmp(a, b)
	if e != api.OK {
		t.Fatalf("Cmp(%v, %v): %v", a, b, e)
	}
	return c
}

// noValue fails unless no value is read from b.
func noValue(t *testing.T, b []byte) {
	t.Helper()
	if v, used, e := value.Decode(b); e != api.ErrForm || v != (api.Value{}) || used != 0 {
		t.Errorf("Decode(%v) = %v, %d, %v", b, v, used, e)
	}
}
