package store_test

import (
	"math"
	"slices"
	"testing"

	"braid/api"
	"braid/store"
)

func mustRun(t *testing.T, s api.Store, l []api.Op) (api.Store, []uint8) {
	t.Helper()
	next, verdicts, e := store.Run(s, l)
	if e != api.OK || len(verdicts) != len(l) {
		t.Fatalf("Run of %d on %d operations = %d, %v", len(l), len(s.Order), verdicts, e)
	}
	return next, verdicts
}

func times(v uint8, n int) []uint8 {
	return slices.Repeat([]uint8{v}, n)
}

// P12.3: a run of no operations has no verdicts and changes nothing.
func TestRunNone(t *testing.T) {
	for _, l := range shapes() {
		for _, s := range stores(l) {
			checkRun(t, "nil", s, nil, s, nil, api.OK)
			checkRun(t, "empty", s, []api.Op{}, s, []uint8{}, api.OK)
		}
	}
}

// P12.3: operations in an order that fits are all committed, and are Duplicate in the next run, in any order.
func TestRun(t *testing.T) {
	draw := newDraw()
	for i, l := range shapes() {
		n := i%maxShards + 1
		l = anyOrder(draw, l)
		full := storeOf(l, max(1, len(l)), n)
		checkRun(t, "all", storeOf(nil, max(1, len(l)), n), opsOf(l), full, times(api.Committed, len(l)), api.OK)
		slices.Reverse(l)
		checkRun(t, "again", full, opsOf(l), full, times(api.Duplicate, len(l)), api.OK)
	}
}

// P12.3: verdicts of orders that do not fit, told one by one.
func TestRunOrders(t *testing.T) {
	const c, d, w, f = api.Committed, api.Duplicate, api.Waiting, api.StoreFull
	down := func(l []node) []node { slices.Reverse(l); return l }
	l := diamond()
	for _, step := range []struct {
		name      string
		offered   []node
		capacity  int
		want      []uint8
		committed []node
	}{
		{"a chain from its end", down(chain(5)), 9, []uint8{w, w, w, w, c}, chain(1)},
		{"the same from its end twice", append(down(chain(3)), down(chain(3))...), 9, []uint8{w, w, c, w, c, d}, chain(2)},
		{"a fork from its end", down(fork(3)), 9, []uint8{w, w, w, c}, fork(0)},
		{"a join from its end", down(join(2)), 9, []uint8{w, c, c}, []node{made(1), made(0)}},
		{"a diamond with its end early", []node{l[0], l[3], l[1], l[3], l[2], l[3]}, 9, []uint8{c, w, c, w, c, c}, l},
		{"a diamond into room for three", []node{l[0], l[1], l[2], l[3], l[3], l[0]}, 3, []uint8{c, c, c, f, f, d}, l[:3]},
		{"a diamond without its beginning", l[1:], 9, []uint8{w, w, w}, nil},
		{"one again and again", []node{l[0], l[0], l[0], l[0]}, 1, []uint8{c, d, d, d}, l[:1]},
		{"behind what had no room", []node{made(5), l[0], l[1]}, 1, []uint8{c, f, w}, []node{made(5)}},
		{"room for one, and others wait", []node{l[1], l[3], l[0], l[1], l[3]}, 1, []uint8{w, w, c, f, w}, l[:1]},
	} {
		for n := 1; n <= maxShards; n++ {
			checkRun(t, step.name, storeOf(nil, step.capacity, n), opsOf(step.offered), storeOf(step.committed, step.capacity, n), step.want, api.OK)
		}
	}
}

// P12.3: a run goes on from what is committed: later ones may be behind those of the store, and what it has is Duplicate.
func TestRunOn(t *testing.T) {
	for _, l := range smallShapes() {
		for i := 0; i <= len(l); i += max(1, len(l)/3) {
			for n := 1; n <= maxShards; n++ {
				verdicts := append(times(api.Duplicate, i), times(api.Committed, len(l)-i)...)
				checkRun(t, "on", storeOf(l[:i], maxStore, n), opsOf(l), storeOf(l, maxStore, n), verdicts, api.OK)
			}
		}
	}
}

// P12.3: a run of MaxList operations has MaxList verdicts, into any store; those behind the last that has room are StoreFull.
func TestRunMaxList(t *testing.T) {
	l := alone(maxList)
	for n := 1; n <= maxShards; n++ {
		for _, capacity := range []int{1, maxStore - 1, maxStore} {
			verdicts := append(times(api.Committed, capacity), times(api.StoreFull, maxList-capacity)...)
			checkRun(t, "as many as may be", storeOf(nil, capacity, n), opsOf(l), storeOf(l[:capacity], capacity, n), verdicts, api.OK)
		}
		full := storeOf(l[:maxStore], maxStore, n)
		checkRun(t, "one again and again", full, slices.Repeat(opsOf(l[3:4]), maxList), full, times(api.Duplicate, maxList), api.OK)
	}
}

// P12.3: ErrMany for more than MaxList operations, also where the store has all of them, and before the errors of operations.
func TestRunMany(t *testing.T) {
	l := alone(maxList + 1)
	for _, there := range [][]node{nil, l[:1], l[:maxStore]} {
		for _, s := range stores(there) {
			checkRun(t, "one too many", s, opsOf(l), api.Store{}, nil, api.ErrMany)
			checkRun(t, "one again and again", s, slices.Repeat(opsOf(l[:1]), maxList+1), api.Store{}, nil, api.ErrMany)
			checkRun(t, "zero ones", s, make([]api.Op, maxList+1), api.Store{}, nil, api.ErrMany)
			checkRun(t, "very many", s, make([]api.Op, 100000), api.Store{}, nil, api.ErrMany)
			checkRun(t, "many, and a faulty one", s, append([]api.Op{unsigned(l[0].o)}, opsOf(l)...), api.Store{}, nil, api.ErrMany)
		}
	}
}

// P12.3: op.Verify's error of an operation, in any place of a run: nothing is committed, whatever comes before it.
func TestRunFaulty(t *testing.T) {
	l := wide(6, 2)
	for _, f := range faultyOps(l[4].o) {
		for i := range len(l) + 1 {
			ops := slices.Insert(opsOf(l), i, f.o)
			for n := 1; n <= maxShards; n++ {
				checkRun(t, f.name, storeOf(nil, 9, n), ops, api.Store{}, nil, f.want)
			}
			checkRun(t, f.name+", to a full one", storeOf(l, len(l), 2), ops, api.Store{}, nil, f.want)
		}
	}
	long := append(opsOf(alone(maxList-1)), unsigned(made(0).o))
	checkRun(t, "the last of MaxList", storeOf(nil, 1, 1), long, api.Store{}, nil, api.ErrFalse)
}

// P12.3: of several operations with errors it is that of the first one.
func TestRunFirstFaulty(t *testing.T) {
	faults := faultyOps(diamond()[3].o)
	for _, a := range faults {
		for _, b := range faults {
			ops := append(opsOf(diamond()[:2]), a.o, b.o)
			checkRun(t, a.name+" and "+b.name, storeOf(nil, 2, 2), ops, api.Store{}, nil, a.want)
		}
	}
}

// P12.3: what would wait, or would have no room, or is there, is looked at for its errors too.
func TestRunFaultyBehind(t *testing.T) {
	for _, m := range []node{made(0), made(1, made(2)), made(3)} {
		for _, f := range faultyOps(m.o) {
			for _, s := range stores(alone(1)) {
				checkRun(t, f.name, s, []api.Op{made(3).o, f.o}, api.Store{}, nil, f.want)
			}
		}
	}
}

// P12.3: Since returns the ids of Order behind the first ones, for each version from 0 to that of the index.
func TestSince(t *testing.T) {
	draw := newDraw()
	for _, l := range shapes() {
		l = anyOrder(draw, l)
		for _, s := range stores(l) {
			for version := 0; version <= len(l); version += max(1, len(l)/8) {
				checkSince(t, s, version, idsOf(l[version:]), api.OK)
			}
			checkSince(t, s, len(l), nil, api.OK)
		}
	}
	l := alone(5)
	for version := range len(l) + 1 {
		for _, s := range stores(l) {
			checkSince(t, s, version, idsOf(l[version:]), api.OK)
		}
	}
}

// P12.3: ErrArg for a version above that of the index, also where it is not above the capacity, and for negative ones.
func TestSinceArg(t *testing.T) {
	for _, l := range shapes() {
		for _, s := range stores(l) {
			for _, version := range []int{len(l) + 1, -1, math.MaxInt, math.MinInt} {
				checkSince(t, s, version, nil, api.ErrArg)
			}
		}
	}
	for _, l := range [][]node{nil, alone(1), diamond()} {
		for _, s := range stores(l) {
			for _, version := range []int{len(l) + 2, s.Cap + 1, maxStore, maxStore + 1, -2, -len(l) - 1, len(l) + 1<<8, len(l) + 1<<32, math.MaxInt - 1, math.MinInt + 1} {
				checkSince(t, s, version, nil, api.ErrArg)
			}
		}
	}
}
