package store_test

import (
	"math"
	"testing"

	"braid/api"
	"braid/store"
)

func mustNew(t *testing.T, capacity, n int) api.Store {
	t.Helper()
	s, e := store.New(capacity, n)
	if e != api.OK {
		t.Fatalf("New(%d, %d): %v", capacity, n, e)
	}
	return s
}

// outside are numbers that are not from 1 to a limit.
func outside(limit int) []int {
	return []int{0, limit + 1, limit + 2, 2 * limit, 256, 257, 1 << 32, 1<<32 + 1, math.MaxInt, -1, -2, -limit, math.MinInt32, math.MinInt, math.MinInt + 1}
}

// P12.1: New returns a store without operations, which is valid, for each capacity and each number of shards.
func TestNew(t *testing.T) {
	for capacity := 1; capacity <= maxStore; capacity++ {
		for n := 1; n <= maxShards; n++ {
			s, e := store.New(capacity, n)
			if e != api.OK || !sameStore(s, api.Store{Cap: capacity, Shards: api.Shards{Parts: make([]api.Graph, n)}}) {
				t.Errorf("New(%d, %d) = %v, %v", capacity, n, s, e)
			}
			checkStore(t, "new", s, api.OK)
			checkGraph(t, s, api.Graph{}, api.OK)
			checkSince(t, s, 0, nil, api.OK)
			checkSince(t, s, 1, nil, api.ErrArg)
			checkHas(t, s, made(0).id, false, api.OK)
		}
	}
}

// P12.1: a new store has room for as many operations as its capacity tells, and for no more.
func TestNewRoom(t *testing.T) {
	l := alone(maxStore + 1)
	for _, capacity := range []int{1, 2, 7, maxStore - 1, maxStore} {
		for n := 1; n <= maxShards; n++ {
			s := mustNew(t, capacity, n)
			s, verdicts := mustRun(t, s, opsOf(l[:capacity+1]))
			for i, v := range verdicts {
				if i < capacity && v != api.Committed || i == capacity && v != api.StoreFull {
					t.Errorf("the verdict %d with the capacity %d is %d", i, capacity, v)
				}
			}
			if !sameStore(s, storeOf(l[:capacity], capacity, n)) {
				t.Errorf("with the capacity %d and %d shards there is %v", capacity, n, s)
			}
		}
	}
}

// P12.1: ErrArg unless the capacity is from 1 to MaxStore, whatever the number of shards is, and unless there are from 1 to MaxShards shards.
func TestNewArg(t *testing.T) {
	refused := func(capacity, n int) {
		t.Helper()
		if s, e := store.New(capacity, n); e != api.ErrArg || !sameStore(s, api.Store{}) {
			t.Errorf("New(%d, %d) = %v, %v", capacity, n, s, e)
		}
	}
	for _, capacity := range outside(maxStore) {
		for n := 1; n <= maxShards; n++ {
			refused(capacity, n)
		}
		for _, n := range outside(maxShards) {
			refused(capacity, n)
		}
	}
	for _, n := range outside(maxShards) {
		for capacity := 1; capacity <= maxStore; capacity++ {
			refused(capacity, n)
		}
	}
}
