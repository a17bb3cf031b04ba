package value_test

import (
	"cmp"
	"math"
	"math/big"
	"slices"
	"strings"
	"testing"

	"braid/api"
	"braid/value"
)

func num(n int64) api.Value   { return api.Value{Kind: api.ValNumber, Num: n} }
func flt(b uint64) api.Value  { return api.Value{Kind: api.ValFloat, Bits: b} }
func text(s string) api.Value { return api.Value{Kind: api.ValText, Text: s} }

// knownOrder is values in their order, those of the chapter's examples among them.
func knownOrder() []api.Value {
	return []api.Value{
		flt(0xfff0000000000000), // minus infinite
		flt(0xffefffffffffffff), // the least one that is not
		flt(0xc3e0000000000001),
		num(math.MinInt64),
		flt(0xc3e0000000000000), // -2^63
		num(math.MinInt64 + 1),
		num(math.MinInt64 + 1023),
		num(math.MinInt64 + 1024),
		flt(0xc3dfffffffffffff), // -2^63 + 1024
		num(math.MinInt64 + 1025),
		num(-1<<62 - 1),
		num(-1 << 62),
		flt(0xc3d0000000000000), // -2^62
		num(-1<<62 + 1),
		num(-1<<53 - 2),
		flt(0xc340000000000001), // -2^53 - 2
		num(-1<<53 - 1),
		num(-1 << 53),
		flt(0xc340000000000000), // -2^53
		num(-1<<53 + 1),
		flt(0xc33fffffffffffff), // -2^53 + 1
		num(-5),
		flt(0xc014000000000000), // -5
		flt(0xc012000000000000), // -4.5
		num(-4),
		num(-1),
		flt(0xbff0000000000000), // -1
		flt(0xbfefffffffffffff), // just above -1
		flt(0x8010000000000000), // the least usual size
		flt(0x800fffffffffffff),
		flt(0x8000000000000001), // the least size of all
		flt(0x8000000000000000), // zero with the sign 1
		num(0),
		flt(0),
		flt(1),
		flt(0x000fffffffffffff),
		flt(0x0010000000000000),
		flt(0x3fd5555555555555), // nearly one third
		flt(0x3fefffffffffffff), // just below 1
		num(1),
		flt(one),
		flt(0x3ff0000000000001),
		flt(0x3ff8000000000000), // one and a half
		num(2),
		flt(0x4000000000000000),
		num(1<<53 - 1),
		flt(0x433fffffffffffff), // 2^53 - 1
		num(1 << 53),
		flt(two53),
		num(1<<53 + 1),
		num(1<<53 + 2),
		flt(two53 + 1), // 2^53 + 2
		num(1<<53 + 3),
		num(1<<62 - 512),
		flt(two62 - 1), // 2^62 - 512
		num(1<<62 - 511),
		num(1<<62 - 1),
		num(1 << 62),
		flt(two62),
		num(1<<62 + 1),
		num(1<<62 + 1023),
		num(1<<62 + 1024),
		flt(two62 + 1), // 2^62 + 1024
		num(1<<62 + 1025),
		num(math.MaxInt64 - 1024),
		num(math.MaxInt64 - 1023),
		flt(two63 - 1), // 2^63 - 1024
		num(math.MaxInt64 - 1022),
		num(math.MaxInt64 - 1),
		num(math.MaxInt64),
		flt(two63),
		flt(two63 + 1),
		flt(0x43f0000000000000), // 2^64
		flt(0x7fefffffffffffff),
		flt(infinite),
		flt(plain),
		text(""),
		text(" "),
		text("A"), text("AB"), text("ABC"), text("AC"), text("B"), text("a"),
		text("~"), text("~ "),
		text(strings.Repeat("~", 29)),
		text(strings.Repeat("~", 29) + " "),
		text(strings.Repeat("~", 30)),
	}
}

// checkOrder fails unless the values come strictly one after the other, whichever two of them are compared.
func checkOrder(t *testing.T, l []api.Value) {
	t.Helper()
	for i, a := range l {
		for j, b := range l {
			if got := mustCmp(t, a, b); got != cmp.Compare(i, j) {
				t.Fatalf("Cmp(%v, %v) = %d, want %d", a, b, got, cmp.Compare(i, j))
			}
		}
	}
}

// P5.3: known values, whichever two of them are compared.
func TestCmpKnown(t *testing.T) {
	checkOrder(t, knownOrder())
}

// exact is a valid value, and what it stands for if that is a number.
type exact struct {
	v    api.Value
	part int        // 1 for numbers and floats, 2 for FloatNone, 3 for texts
	size *big.Float // what it stands for, exactly; nil for other parts
}

func exactOf(v api.Value) exact {
	switch {
	case v.Kind == api.ValText:
		return exact{v, 3, nil}
	case v.Kind == api.ValNumber:
		return exact{v, 1, new(big.Float).SetInt64(v.Num)}
	case v.Bits == plain:
		return exact{v, 2, nil}
	}
	return exact{v, 1, big.NewFloat(math.Float64frombits(v.Bits))}
}

// tie returns where one of those that stand for the same comes.
func tie(v api.Value) int {
	switch {
	case v.Kind == api.ValNumber:
		return 1
	case v.Bits == signBit:
		return 0
	}
	return 2
}

// wantCmp is the order as the chapter defines it, by numbers that are never rounded.
func wantCmp(a, b exact) int {
	if a.part != b.part {
		return cmp.Compare(a.part, b.part)
	}
	switch a.part {
	case 1:
		return cmp.Or(a.size.Cmp(b.size), cmp.Compare(tie(a.v), tie(b.v)))
	case 2:
		return 0
	}
	return cmp.Compare(a.v.Text, b.v.Text)
}

// P5.3: any values.
func TestCmp(t *testing.T) {
	var l []exact
	for _, v := range fineValues() {
		l = append(l, exactOf(v))
	}
	for _, a := range l {
		for _, b := range l {
			if got := mustCmp(t, a.v, b.v); got != wantCmp(a, b) {
				t.Fatalf("Cmp(%v, %v) = %d, want %d", a.v, b.v, got, wantCmp(a, b))
			}
		}
	}
}

// P5.3: each number against the floats that are nearest to it, which are just beside it where it has none of its own.
func TestCmpNearest(t *testing.T) {
	for _, n := range numbers() {
		b := math.Float64bits(float64(n))
		for _, x := range []uint64{b - 2, b - 1, b, b + 1, b + 2, b ^ signBit} {
			if wantClass(x) == 5 {
				continue
			}
			want := wantCmp(exactOf(num(n)), exactOf(flt(x)))
			if got := mustCmp(t, num(n), flt(x)); got != want {
				t.Errorf("Cmp of %d and %x = %d, want %d", n, x, got, want)
			}
			if got := mustCmp(t, flt(x), num(n)); got != -want {
				t.Errorf("Cmp of %x and %d = %d, want %d", x, n, got, -want)
			}
		}
	}
}

// P5.3: ErrBad unless both are valid, whichever of them is not.
func TestCmpBad(t *testing.T) {
	fine := []api.Value{num(0), flt(plain), text("a")}
	for _, bad := range badValues() {
		for _, v := range append(fine, bad, api.Value{}) {
			if c, e := value.Cmp(bad, v); c != 0 || e != api.ErrBad {
				t.Errorf("Cmp(%v, %v) = %d, %v", bad, v, c, e)
			}
			if c, e := value.Cmp(v, bad); c != 0 || e != api.ErrBad {
				t.Errorf("Cmp(%v, %v) = %d, %v", v, bad, c, e)
			}
		}
	}
}

// P5.5: the order is a total one; only a value itself is neither before nor behind it.
func TestTotal(t *testing.T) {
	l := fineValues()
	slices.SortFunc(l, func(a, b api.Value) int { return mustCmp(t, a, b) })
	checkOrder(t, l)
}

// P5.5: numbers are ordered as whole numbers.
func TestNumbersOrder(t *testing.T) {
	l := numbers()
	for _, a := range l {
		for _, b := range l {
			if got := mustCmp(t, value.Number(a), value.Number(b)); got != cmp.Compare(a, b) {
				t.Errorf("Cmp of %d and %d = %d", a, b, got)
			}
		}
	}
}

// P5.5: floats with the sign 0 are ordered as their bits, those with the sign 1 the other way about; with each sign FloatNone has its plain bits.
func TestFloatsOrder(t *testing.T) {
	l := anyBits()
	for _, x := range l {
		for _, y := range l {
			a, b := value.Canon(x), value.Canon(y)
			want := cmp.Compare(a, b)
			switch signs := a>>63 + b>>63; {
			case signs == 2:
				want = -want
			case signs == 1:
				want = cmp.Compare(b>>63, a>>63)
			}
			if got := mustCmp(t, value.Float(x), value.Float(y)); got != want {
				t.Fatalf("Cmp of %x and %x = %d, want %d", x, y, got, want)
			}
		}
	}
}

// P5.5: a number of at most 2^53 in size, and the float that stands for the same, have the same values before and behind them.
func TestSameBeforeAndBehind(t *testing.T) {
	l := fineValues()
	for _, n := range numbers() {
		if n < -1<<53 || n > 1<<53 {
			continue
		}
		a, b := num(n), flt(math.Float64bits(float64(n)))
		if want := -1; mustCmp(t, a, b) != want {
			t.Errorf("the number %d does not come before its float", n)
		}
		for _, v := range l {
			zero := n == 0 && (v == flt(0) || v == flt(signBit))
			if v == a || v == b || zero {
				continue
			}
			if mustCmp(t, v, a) != mustCmp(t, v, b) {
				t.Errorf("%v is %d to %v, and %d to %v", v, mustCmp(t, v, a), a, mustCmp(t, v, b), b)
			}
		}
	}
}
