package wire

import (
	"math/bits"

	"braid/api"
	"braid/digest"
)

const (
	lastShort = 247 // the greatest number that is its own byte
	idSize    = 32  // bytes of an id
)

// sizeOf returns how many bytes a number has.
func sizeOf(n uint64) int {
	if n <= lastShort {
		return 1
	}
	return 1 + (bits.Len64(n)+7)/8
}

// fold returns 2 n, or -2 n - 1 if n is less than 0.
func fold(n int64) uint64 {
	if n < 0 {
		// ^n is -n - 1, which exists for each n; -n does not for the least one.
		return 2*uint64(^n) + 1
	}
	return 2 * uint64(n)
}

// unfold returns the number whose fold is f.
func unfold(f uint64) int64 {
	half := int64(f / 2)
	if f%2 == 1 {
		return ^half
	}
	return half
}

// counted returns the bytes of a count, with room for size bytes behind them, and a function that puts bytes into this room, from left to right.
func counted(count, size int) ([]byte, func([]byte)) {
	head := Number(uint64(count))
	b := make([]byte, len(head)+size)
	at := copy(b, head)
	return b, func(part []byte) {
		at += copy(b[at:], part)
	}
}

// readCounted reads a count of at most so many items, and the items, of size bytes each: it returns the bytes of all items, which are a part of b, and how many bytes were read.
func readCounted(b []byte, most, size int) ([]byte, int, api.Errno) {
	if most < 0 {
		return nil, 0, api.ErrArg
	}
	count, used, e := ReadNumber(b)
	if e != api.OK {
		return nil, 0, e
	}
	items := b[used:]
	// A count is anything up to 2^64 - 1, so it is compared before anything is multiplied or converted.
	if count > uint64(most) || count > uint64(len(items)/size) {
		return nil, 0, api.ErrForm
	}
	length := int(count) * size
	return items[:length], used + length, api.OK
}

// increase reports whether ids increase strictly.
func increase(l []api.ID) bool {
	for i := range len(l) - 1 {
		if digest.Cmp(l[i], l[i+1]) >= 0 {
			return false
		}
	}
	return true
}
