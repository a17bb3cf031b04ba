package wire_test

import (
	"bytes"
	"math"
	"slices"
	"testing"

	"braid/api"
	"braid/wire"
)

// fineLists returns lists of at most MaxList ids that increase strictly.
func fineLists() [][]api.ID {
	last := api.ID(bytes.Repeat([]byte{255}, 32))
	before := last
	before[31] = 254
	l := [][]api.ID{nil, {}, {{}}, {last}, {{}, last}, {before, last}, {{}, {31: 1}, {30: 1}, {29: 1, 31: 1}, {1}, {127}, {128}, before, last}}
	for _, n := range []int{1, 2, 3, 7, 8, api.MaxList - 1, api.MaxList} {
		l = append(l, ids(n))
	}
	return l
}

// P4.3: the bytes of lists.
func TestIDs(t *testing.T) {
	if b := mustIDs(t, nil); !bytes.Equal(b, []byte{0}) {
		t.Errorf("IDs of no ids = %v", b)
	}
	two := mustIDs(t, []api.ID{{0: 1}, {0: 1, 31: 2}})
	if len(two) != 65 || two[0] != 2 || two[1] != 1 || two[33] != 1 || two[64] != 2 {
		t.Errorf("IDs of two ids = %v", two)
	}
	for _, l := range fineLists() {
		if b := mustIDs(t, l); !bytes.Equal(b, wantIDs(l)) {
			t.Errorf("IDs of %d ids = %v", len(l), b)
		}
	}
}

// P4.3: ErrMany for more than MaxList ids, also where they are not in order.
func TestIDsMany(t *testing.T) {
	for _, n := range []int{api.MaxList + 1, api.MaxList + 2, 200, 256} {
		down := ids(n)
		slices.Reverse(down)
		for _, l := range [][]api.ID{ids(n), down, make([]api.ID, n)} {
			if b, e := wire.IDs(l); e != api.ErrMany || len(b) != 0 {
				t.Errorf("IDs of %d ids = %d bytes, %v", n, len(b), e)
			}
		}
	}
}

// P4.3: ErrOrder unless the ids increase strictly; bytes with such ids are no list, so they give ErrForm.
func TestDisorder(t *testing.T) {
	for _, l := range disorders() {
		if b, e := wire.IDs(l); e != api.ErrOrder || len(b) != 0 {
			t.Errorf("IDs of %x = %v, %v", l, b, e)
		}
		for _, tail := range tails() {
			b := slices.Concat(wantIDs(l), tail)
			noIDs(t, b, len(l), api.ErrForm)
			noIDs(t, b, math.MaxInt, api.ErrForm)
			noIDs(t, b, len(l)-1, api.ErrForm)
		}
	}
}

// P4.3: a list is read where most is as much as it has, or more, and not where it is less.
func TestReadIDs(t *testing.T) {
	for _, l := range fineLists() {
		for _, tail := range tails() {
			b := slices.Concat(wantIDs(l), tail)
			for _, most := range []int{len(l), len(l) + 1, 32 * len(l), math.MaxInt32, math.MaxInt} {
				got, used, e := wire.ReadIDs(b, most)
				if e != api.OK || !slices.Equal(got, l) || used != len(b)-len(tail) {
					t.Errorf("ReadIDs of %d ids, at most %d = %v, %d, %v", len(l), most, got, used, e)
				}
			}
			for most := range l {
				noIDs(t, b, most, api.ErrForm)
			}
		}
	}
}

// P4.3: only most limits what is read: also more than MaxList ids are a list.
func TestReadLongIDs(t *testing.T) {
	for _, n := range []int{api.MaxList + 1, 247, 248, 255, 256} {
		l := ids(n)
		got, used, e := wire.ReadIDs(append(wantIDs(l), 7), n)
		if e != api.OK || !slices.Equal(got, l) || used != len(wantIDs(l)) {
			t.Errorf("ReadIDs of %d ids = %d ids, %d, %v", n, len(got), used, e)
		}
		noIDs(t, wantIDs(l), n-1, api.ErrForm)
		noIDs(t, wantIDs(l), api.MaxList, api.ErrForm)
	}
}

// P4.3: ErrArg for a most of less than 0, before all else; most 0 is fine.
func TestReadIDsMost(t *testing.T) {
	for _, most := range []int{-1, -2, -248, math.MinInt32, math.MinInt} {
		for _, b := range [][]byte{nil, {}, {0}, {1}, {248, 247}, {255}, wantIDs(ids(2)), wantIDs(make([]api.ID, 2)), wantNumber(math.MaxUint64)} {
			noIDs(t, b, most, api.ErrArg)
		}
	}
	if l, used, e := wire.ReadIDs([]byte{0, 5}, 0); e != api.OK || len(l) != 0 || used != 1 {
		t.Errorf("ReadIDs of no ids, at most 0 = %v, %d, %v", l, used, e)
	}
	noIDs(t, wantIDs(ids(1)), 0, api.ErrForm)
	noIDs(t, nil, 0, api.ErrForm)
}

// P4.3: ErrForm where there is no list: no number, one that is too long, or fewer bytes than it says.
func TestNoIDs(t *testing.T) {
	for _, b := range noNumbers() {
		noIDs(t, b, math.MaxInt, api.ErrForm)
	}
	noIDs(t, append([]byte{248, 1}, pattern(32)...), math.MaxInt, api.ErrForm)
	noIDs(t, append([]byte{249, 0, 1}, pattern(32)...), math.MaxInt, api.ErrForm)
	for _, l := range fineLists() {
		b := wantIDs(l)
		for i := range b {
			noIDs(t, b[:i], math.MaxInt, api.ErrForm)
		}
	}
}

// P4.3 and R7: numbers of ids that no memory has, also those whose bytes are few ones again modulo 2^64 or 2^32.
func TestGreatIDs(t *testing.T) {
	body := wantIDs(ids(4))[1:]
	for _, n := range []uint64{5, 1 << 26, 1 << 27, 1<<27 + 1, 1 << 31, 1 << 32, 1<<32 + 1, 1 << 58, 1<<58 + 1, 1 << 59, 1<<59 + 1, 1<<59 + 2, 1<<63 - 1, 1 << 63, 1<<63 + 1, math.MaxUint64} {
		for _, most := range []int{0, 1, 4, 100, math.MaxInt} {
			noIDs(t, append(wantNumber(n), body...), most, api.ErrForm)
			noIDs(t, wantNumber(n), most, api.ErrForm)
		}
	}
}
