package value

import (
	"cmp"
	"math/bits"

	"braid/api"
)

// place is where a value stands: in the order of float, then of rest, then of kind.
type place struct {
	float uint64 // the rank of the float itself, or of the one that begins a number
	rest  int64  // what the number has beyond this float
	kind  uint8  // of two that stand for the same the number comes before the float
}

// behindFloats is a rank that no float has.
const behindFloats = 1<<64 - 1

// placeOf returns the place of a valid value.
func placeOf(v api.Value) place {
	switch v.Kind {
	case api.ValNumber:
		return placeOfNumber(v.Num)
	case api.ValFloat:
		return place{float: rank(v.Bits), kind: v.Kind}
	}
	return place{float: behindFloats, kind: v.Kind}
}

// cmpPlaces returns -1, 0 or 1 if a comes before b, is b, or comes behind b.
func cmpPlaces(a, b place) int {
	return cmp.Or(cmp.Compare(a.float, b.float), cmp.Compare(a.rest, b.rest), cmp.Compare(a.kind, b.kind))
}

// rank returns a number that is greater for a float further behind. FloatNone, whose plain bits have the sign 0, is behind all others.
func rank(b uint64) uint64 {
	if b&signBit != 0 {
		// With the sign 1 the order is the other way about.
		return ^b
	}
	return b | signBit
}

// placeOfNumber returns the place of a number. As whole numbers are compared here, nothing is rounded.
func placeOfNumber(n int64) place {
	if n < 0 {
		// As a number without a sign -n is right for the least n too.
		b, rest := cut(-uint64(n))
		return place{float: rank(signBit | b), rest: -rest, kind: api.ValNumber}
	}
	b, rest := cut(uint64(n))
	return place{float: rank(b), rest: rest, kind: api.ValNumber}
}

// cut returns the bits of the greatest float that is at most n, and the digits of n for which this float has no room. With the same float more digits are more.
func cut(n uint64) (uint64, int64) {
	if n == 0 {
		return 0, 0
	}
	size := bits.Len64(n)
	// The highest digit is moved to the highest bit: a float has it and sizeF more behind it.
	digits := n << (64 - size)
	const room = 64 - 1 - sizeF
	f := digits << 1 >> (64 - sizeF)
	// 2^(size - 1) has the X 1023 + size - 1.
	x := uint64(1023 + size - 1)
	return x<<sizeF | f, int64(digits & (1<<room - 1))
}
