package value_test

import (
	"math"
	"slices"
	"strings"
	"testing"

	"braid/api"
	"braid/value"
)

// P5.1: values of each kind are valid, with what stands at their ends.
func TestCheck(t *testing.T) {
	for _, v := range append(fineValues(),
		api.Value{Kind: 1}, api.Value{Kind: 2}, api.Value{Kind: 3},
		api.Value{Kind: 1, Num: math.MinInt64}, api.Value{Kind: 1, Num: math.MaxInt64},
		api.Value{Kind: 2, Bits: signBit}, api.Value{Kind: 2, Bits: infinite}, api.Value{Kind: 2, Bits: signBit | infinite}, api.Value{Kind: 2, Bits: plain},
		api.Value{Kind: 3, Text: strings.Repeat("a", 30)}, api.Value{Kind: 3, Text: " ~"},
	) {
		if e := value.Check(v); e != api.OK {
			t.Errorf("Check(%v) = %v", v, e)
		}
	}
}

// P5.1: ErrBad for all others, also for texts that are too long.
func TestCheckBad(t *testing.T) {
	for _, v := range badValues() {
		if e := value.Check(v); e != api.ErrBad {
			t.Errorf("Check(%v) = %v", v, e)
		}
	}
}

// P5.1: the ends of each class, with both signs.
func TestClassKnown(t *testing.T) {
	for _, c := range []struct {
		bits uint64
		want uint8
	}{
		{0, api.FloatZero},
		{1, api.FloatSmall},
		{0x0008000000000000, api.FloatSmall},
		{0x000fffffffffffff, api.FloatSmall},
		{0x0010000000000000, api.FloatUsual},
		{0x0010000000000001, api.FloatUsual},
		{one, api.FloatUsual},
		{0x7fe0000000000000, api.FloatUsual},
		{0x7fefffffffffffff, api.FloatUsual},
		{0x7ff0000000000000, api.FloatInfinite},
		{0x7ff0000000000001, api.FloatNone},
		{0x7ff7ffffffffffff, api.FloatNone},
		{0x7ff8000000000000, api.FloatNone},
		{0x7ff8000000000001, api.FloatNone},
		{0x7fffffffffffffff, api.FloatNone},
	} {
		for _, b := range []uint64{c.bits, c.bits | signBit} {
			if got := value.Class(b); got != c.want {
				t.Errorf("Class(%x) = %d, want %d", b, got, c.want)
			}
		}
	}
}

// wantClass is the class of bits, by the floats of the language.
func wantClass(b uint64) uint8 {
	f := math.Float64frombits(b)
	switch {
	case f != f:
		return 5
	case math.IsInf(f, 0):
		return 4
	case f == 0:
		return 1
	case math.Abs(f) < 0x1p-1022:
		return 2
	}
	return 3
}

// P5.1: any bits.
func TestClass(t *testing.T) {
	for _, b := range anyBits() {
		if got, want := value.Class(b), wantClass(b); got != want {
			t.Errorf("Class(%x) = %d, want %d", b, got, want)
		}
	}
}

// P5.1: only where no number has the bits are the plain ones other ones.
func TestCanon(t *testing.T) {
	for _, b := range noneBits() {
		if got := value.Canon(b); got != 0x7ff8000000000000 {
			t.Errorf("Canon(%x) = %x", b, got)
		}
	}
	for _, b := range edgeBits() {
		if got := value.Canon(b); got != b {
			t.Errorf("Canon(%x) = %x", b, got)
		}
	}
	for _, b := range anyBits() {
		if got := value.Canon(value.Canon(b)); got != value.Canon(b) || value.Class(got) != value.Class(b) {
			t.Errorf("the plain bits of those of %x are %x", b, got)
		}
	}
}

// P5.2: the value with a number.
func TestNumber(t *testing.T) {
	for _, n := range numbers() {
		if v := value.Number(n); v != (api.Value{Kind: api.ValNumber, Num: n}) || value.Check(v) != api.OK {
			t.Errorf("Number(%d) = %v", n, v)
		}
	}
}

// P5.2: the value with the plain bits.
func TestFloat(t *testing.T) {
	for _, b := range anyBits() {
		want := b
		if wantClass(b) == 5 {
			want = plain
		}
		if v := value.Float(b); v != (api.Value{Kind: api.ValFloat, Bits: want}) || value.Check(v) != api.OK {
			t.Errorf("Float(%x) = %v", b, v)
		}
	}
}

// P5.2: the value with a text of 0 to MaxText bytes.
func TestText(t *testing.T) {
	for _, s := range fineTexts() {
		if v, e := value.Text(s); e != api.OK || v != (api.Value{Kind: api.ValText, Text: s}) {
			t.Errorf("Text(%q) = %v, %v", s, v, e)
		}
	}
}

// P5.2: ErrBad for each byte that is not allowed, wherever it stands.
func TestTextBad(t *testing.T) {
	for _, s := range badTexts() {
		if v, e := value.Text(s); e != api.ErrBad || v != (api.Value{}) {
			t.Errorf("Text(%q) = %v, %v", s, v, e)
		}
	}
}

// P5.2: ErrMany for more than MaxText bytes, before any of them is looked at.
func TestTextMany(t *testing.T) {
	for _, s := range longTexts() {
		if v, e := value.Text(s); e != api.ErrMany || v != (api.Value{}) {
			t.Errorf("Text of %d bytes = %v, %v", len(s), v, e)
		}
	}
}

// The helpers have what they are meant to have: the bytes just beside those that are allowed, and valid values once each.
func TestHelpers(t *testing.T) {
	for _, s := range []string{"\x1f", "\x7f", "\x80", "\xff", "\x00"} {
		if !slices.Contains(badTexts(), s) {
			t.Errorf("%q is missing", s)
		}
	}
	seen := map[api.Value]bool{}
	for _, v := range fineValues() {
		if seen[v] {
			t.Errorf("%v is there twice", v)
		}
		seen[v] = true
	}
}
