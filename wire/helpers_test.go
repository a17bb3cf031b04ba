package wire_test

import (
	"bytes"
	"encoding/binary"
	"math"
	"slices"
	"testing"

	"braid/api"
	"braid/wire"
)

// pattern returns n bytes that have no short period, so that bytes in the wrong place are noticed.
func pattern(n int) []byte {
	b := make([]byte, n)
	x := uint32(n)*2654435761 + 1
	for i := range b {
		x = x*1664525 + 1013904223
		b[i] = byte(x >> 24)
	}
	return b
}

// roomy returns a copy of b with bytes between its length and its capacity, and all of its memory.
func roomy(b []byte) (part, all []byte) {
	all = slices.Concat(b, bytes.Repeat([]byte{0xa5}, 80))
	return all[:len(b)], all
}

// tails are what may stand behind what is read.
func tails() [][]byte {
	return [][]byte{nil, {}, {0}, {255}, {247, 248}, pattern(40), bytes.Repeat([]byte{255}, 70)}
}

// numbers returns numbers in increasing order: those around the ends of each length, around each power of 2, and any ones.
func numbers() []uint64 {
	var l []uint64
	for n := range uint64(600) {
		l = append(l, n, math.MaxUint64-n)
	}
	for i := range 64 {
		for d := range uint64(5) {
			l = append(l, 1<<i+d-2)
		}
	}
	x := uint64(1)
	for i := range 640 {
		x = x*6364136223846793005 + 1442695040888963407
		l = append(l, x>>(i%64))
	}
	slices.Sort(l)
	return slices.Compact(l)
}

// signs returns numbers with a sign: those of numbers, and what they are below 0.
func signs() []int64 {
	var l []int64
	for _, n := range numbers() {
		l = append(l, int64(n), -int64(n), ^int64(n))
	}
	slices.Sort(l)
	return slices.Compact(l)
}

// wantNumber is the bytes of a number, by the standard library: its eight bytes without the zeros before them.
func wantNumber(n uint64) []byte {
	if n <= 247 {
		return []byte{byte(n)}
	}
	eight := binary.BigEndian.AppendUint64(nil, n)
	cut := bytes.TrimLeft(eight, "\x00")
	return append([]byte{byte(247 + len(cut))}, cut...)
}

// longer returns bytes that stand for n, with k of them behind the first one; they are too long for it from the k on that its bytes are in all.
func longer(n uint64, k int) []byte {
	eight := binary.BigEndian.AppendUint64(nil, n)
	return append([]byte{byte(247 + k)}, eight[8-k:]...)
}

// noNumbers returns bytes with which no number begins: none, those that end too early, and those that are too long.
func noNumbers() [][]byte {
	l := [][]byte{nil, {}, {248, 247}, {249, 0, 255}}
	for _, n := range numbers() {
		b := wantNumber(n)
		for i := range b {
			l = append(l, b[:i])
		}
		for k := len(b); k <= 8; k++ {
			l = append(l, longer(n, k))
		}
	}
	return l
}

// ids returns n ids that increase strictly; n is at most 256.
func ids(n int) []api.ID {
	l := make([]api.ID, n)
	for i := range l {
		l[i] = api.ID(pattern(32))
		l[i][0] = byte(i)
		l[i][31] = byte(255 - i)
	}
	return l
}

// wantIDs is the bytes of ids, whatever their order is.
func wantIDs(l []api.ID) []byte {
	b := wantNumber(uint64(len(l)))
	for _, id := range l {
		b = append(b, id[:]...)
	}
	return b
}

// wantBytes is the bytes of a string.
func wantBytes(s []byte) []byte {
	return append(wantNumber(uint64(len(s))), s...)
}

// disorders returns lists of ids that do not increase strictly.
func disorders() [][]api.ID {
	var l [][]api.ID
	for _, n := range []int{2, 3, 4, api.MaxList} {
		for i := range n - 1 {
			same, swapped, late := ids(n), ids(n), ids(n)
			same[i+1] = same[i]
			swapped[i], swapped[i+1] = swapped[i+1], swapped[i]
			// Only the last byte is less, though it comes behind 31 equal ones.
			late[i][31], late[i+1] = 9, late[i]
			late[i+1][31] = 8
			l = append(l, same, swapped, late)
		}
		down := ids(n)
		slices.Reverse(down)
		l = append(l, down, make([]api.ID, n))
	}
	return l
}

// The must functions fail where there is an error.

func mustBytes(t *testing.T, s []byte) []byte {
	t.Helper()
	b, e := wire.Bytes(s)
	if e != api.OK {
		t.Fatalf("Bytes of %d bytes: %v", len(s), e)
	}
	return b
}

func mustIDs(t *testing.T, l []api.ID) []byte {
	t.Helper()
	b, e := wire.IDs(l)
	if e != api.OK {
		t.Fatalf("IDs of %d ids: %v", len(l), e)
	}
	return b
}

// The no functions fail unless there is this error, with nothing beside it.

func noNumber(t *testing.T, b []byte) {
	t.Helper()
	if n, used, e := wire.ReadNumber(b); e != api.ErrForm || n != 0 || used != 0 {
		t.Errorf("ReadNumber(%v) = %d, %d, %v", b, n, used, e)
	}
	if n, used, e := wire.ReadSigned(b); e != api.ErrForm || n != 0 || used != 0 {
		t.Errorf("ReadSigned(%v) = %d, %d, %v", b, n, used, e)
	}
}

func noBytes(t *testing.T, b []byte, most int, want api.Errno) {
	t.Helper()
	if s, used, e := wire.ReadBytes(b, most); e != want || len(s) != 0 || used != 0 {
		t.Errorf("ReadBytes of %d bytes, at most %d = %v, %d, %v, want %v", len(b), most, s, used, e, want)
	}
}

func noIDs(t *testing.T, b []byte, most int, want api.Errno) {
	t.Helper()
	if l, used, e := wire.ReadIDs(b, most); e != want || len(l) != 0 || used != 0 {
		t.Errorf("ReadIDs of %d bytes, at most %d = %v, %d, %v, want %v", len(b), most, l, used, e, want)
	}
}
