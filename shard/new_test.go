package shard_test

import (
	"math"
	"testing"

	"braid/api"
	"braid/shard"
)

// P11.1: New returns an index of n parts without operations, which is valid.
func TestNew(t *testing.T) {
	for n := 1; n <= maxShards; n++ {
		s, e := shard.New(n)
		if e != api.OK || !sameIndex(s, api.Shards{Parts: make([]api.Graph, n)}) {
			t.Errorf("New(%d) = %v, %v", n, s, e)
		}
		checkIndex(t, "new", s, api.OK)
		checkAll(t, s, api.Graph{}, api.OK)
		checkHeads(t, s, nil, 0, api.OK)
	}
}

// P11.1: ErrArg unless n is from 1 to MaxShards.
func TestNewArg(t *testing.T) {
	for _, n := range []int{0, maxShards + 1, maxShards + 2, 2 * maxShards, 256, 257, 1 << 32, 1<<32 + 1, math.MaxInt, -1, -2, -maxShards, math.MinInt32, math.MinInt, math.MinInt + 1} {
		if s, e := shard.New(n); e != api.ErrArg || !sameIndex(s, api.Shards{}) {
			t.Errorf("New(%d) = %v, %v", n, s, e)
		}
	}
}

// P11.1: the number of an id is its first byte modulo the number of parts, whatever its other bytes are, and whether the index has it or not.
func TestNumber(t *testing.T) {
	for _, l := range [][]node{nil, alone(1), diamond(), alone(20)} {
		for i, s := range indices(l) {
			for first := range 256 {
				checkNumber(t, s, api.ID{byte(first)}, first%(i+1), api.OK)
			}
		}
	}
	for i, s := range indices(scattered(newDraw(), 12)) {
		for first := range 256 {
			for _, id := range otherIDs(api.ID{}) {
				id[0] = byte(first)
				checkNumber(t, s, id, first%(i+1), api.OK)
			}
		}
	}
}

// P11.1: numbers of ids whose first byte is less than the number of parts, the same, and more.
func TestNumberAround(t *testing.T) {
	want := map[int][]int{1: {0, 0, 0}, 2: {1, 0, 1}, 3: {2, 0, 1}, 4: {3, 0, 1}}
	for n, numbers := range want {
		for i, number := range numbers {
			checkNumber(t, indexOf(nil, n), api.ID{byte(n - 1 + i), 9}, number, api.OK)
			checkNumber(t, indexOf(chain(5), n), api.ID{byte(n - 1 + i)}, number, api.OK)
		}
	}
}

// P11.1: the number of an id tells the part that has it.
func TestNumberTellsPart(t *testing.T) {
	for _, l := range smallShapes() {
		for _, s := range indices(l) {
			for i, p := range s.Parts {
				for _, id := range p.IDs {
					checkNumber(t, s, id, i, api.OK)
				}
			}
		}
	}
}
