package wire_test

import (
	"bytes"
	"math"
	"slices"
	"testing"

	"braid/api"
	"braid/wire"
)

// flip changes all of the memory of b, up to its capacity.
func flip(b []byte) {
	b = b[:cap(b)]
	for i := range b {
		b[i] ^= 0xff
	}
}

// checkOwn fails if writing into the memory of a result can be seen in any other memory, or the other way round.
func checkOwn(t *testing.T, name string, result []byte, others ...[]byte) {
	t.Helper()
	var before [][]byte
	for _, o := range others {
		before = append(before, bytes.Clone(o[:cap(o)]))
	}
	flip(result)
	for i, o := range others {
		if !bytes.Equal(o[:cap(o)], before[i]) {
			t.Errorf("the result of %s shares memory (%d)", name, i)
		}
	}
	seen := bytes.Clone(result)
	for _, o := range others {
		flip(o)
	}
	if !bytes.Equal(result, seen) {
		t.Errorf("the result of %s is changed by other memory", name)
	}
}

// R2: bytes that are read stay as they were, with the memory up to their capacity, and reading twice gives the same.
func TestReadsOnly(t *testing.T) {
	for _, whole := range [][]byte{nil, {5}, {249, 1, 0}, {249, 0, 255}, {255}, wantNumber(math.MaxUint64), wantBytes(pattern(300)), wantIDs(ids(3)), wantIDs(make([]api.ID, 2)), wantIDs(ids(api.MaxList))} {
		for _, cut := range []int{0, 1, 20} {
			part, all := roomy(whole[:max(0, len(whole)-cut)])
			before := bytes.Clone(all)
			for _, most := range []int{-1, 0, 2, math.MaxInt} {
				for range 2 {
					wire.ReadNumber(part)
					wire.ReadSigned(part)
					wire.ReadBytes(part, most)
					wire.ReadIDs(part, most)
				}
			}
			if !bytes.Equal(all, before) {
				t.Errorf("%v was changed", whole)
			}
		}
	}
}

// R2: strings stay as they were, and neither bytes nor what is read share memory with them or with each other.
func TestBytesMemory(t *testing.T) {
	for _, n := range []int{0, 1, 247, 248, 300, api.MaxPiece} {
		s, memory := roomy(pattern(n))
		before := bytes.Clone(memory)
		b, other := mustBytes(t, s), mustBytes(t, s)
		if !bytes.Equal(memory, before) {
			t.Errorf("Bytes of %d bytes changed them", n)
		}
		checkOwn(t, "Bytes", b, memory, other)

		part, all := roomy(wantBytes(pattern(n)))
		one, _, _ := wire.ReadBytes(part, n)
		two, _, _ := wire.ReadBytes(part, n)
		if !bytes.Equal(one, pattern(n)) || !bytes.Equal(two, pattern(n)) {
			t.Errorf("ReadBytes of %d bytes gives others", n)
		}
		checkOwn(t, "ReadBytes", one, all, two)
	}
	many, memory := roomy(pattern(api.MaxPiece + 1))
	before := bytes.Clone(memory)
	wire.Bytes(many)
	if !bytes.Equal(memory, before) {
		t.Error("Bytes of a byte too many changed them")
	}
}

// R2: lists stay as they were, also those that are refused, with the memory up to their capacity.
func TestIDsReadOnly(t *testing.T) {
	for _, l := range append(disorders(), nil, ids(1), ids(5), ids(api.MaxList), ids(api.MaxList+1)) {
		memory := append(slices.Clone(l), ids(3)...)
		before := slices.Clone(memory)
		first, e := wire.IDs(memory[:len(l)])
		second, again := wire.IDs(memory[:len(l)])
		if !slices.Equal(memory, before) {
			t.Errorf("IDs of %d ids changed them", len(l))
		}
		if e != again || !bytes.Equal(first, second) {
			t.Errorf("IDs of %d ids twice: %v and %v", len(l), e, again)
		}
		checkOwn(t, "IDs", first, second)
	}
}

// R2: ids that are read share no memory with each other.
func TestReadIDsMemory(t *testing.T) {
	b := wantIDs(ids(4))
	one, _, _ := wire.ReadIDs(b, 4)
	two, _, _ := wire.ReadIDs(b, 4)
	clear(b)
	clear(two[:cap(two)])
	if !slices.Equal(one, ids(4)) {
		t.Errorf("ids that were read have become %x", one)
	}
	if one = append(one[:0], one[1:]...); !slices.Equal(one, ids(4)[1:]) {
		t.Errorf("ids that were read are %x", one)
	}
}

// R2: each call of Number and Signed gives memory of its own.
func TestNumberMemory(t *testing.T) {
	for _, n := range []uint64{0, 1, 247, 248, 256, math.MaxUint64} {
		checkOwn(t, "Number", wire.Number(n), wire.Number(n))
		checkOwn(t, "Signed", wire.Signed(int64(n)), wire.Signed(int64(n)))
		if !bytes.Equal(wire.Number(n), wantNumber(n)) {
			t.Errorf("Number(%d) was changed by its caller", n)
		}
	}
}
