package dag_test

import (
	"math/rand"
	"slices"
	"testing"

	"braid/api"
	"braid/dag"
)

// checkNoGraph fails unless Of has an error for a list, with the zero value.
func checkNoGraph(t *testing.T, name string, l []api.Op, want api.Errno) {
	t.Helper()
	if g, e := dag.Of(l); e != want || !isEmpty(g) {
		t.Errorf("%s: Of %d operations = %v, %v, want %v", name, len(l), g, e, want)
	}
}

// P9.4: the graph of a list in any order.
func TestOf(t *testing.T) {
	draw := rand.New(rand.NewSource(94))
	for _, l := range shapes() {
		checkGraph(t, mustOf(t, opsOf(l)), l)
		down := slices.Clone(l)
		slices.Reverse(down)
		checkGraph(t, mustOf(t, opsOf(down)), l)
		for range 5 {
			mixed := slices.Clone(l)
			draw.Shuffle(len(mixed), func(i, j int) { mixed[i], mixed[j] = mixed[j], mixed[i] })
			checkGraph(t, mustOf(t, opsOf(mixed)), l)
		}
	}
	checkGraph(t, mustOf(t, nil), nil)
	checkGraph(t, mustOf(t, []api.Op{}), nil)
}

// P9.4: all orders of the chapter's a, b, c and d.
func TestOfAllOrders(t *testing.T) {
	l := diamond()
	for i := range 256 {
		order := []int{i % 4, i / 4 % 4, i / 16 % 4, i / 64}
		sorted := slices.Sorted(slices.Values(order))
		if !slices.Equal(sorted, []int{0, 1, 2, 3}) {
			continue
		}
		mixed := []node{l[order[0]], l[order[1]], l[order[2]], l[order[3]]}
		checkGraph(t, mustOf(t, opsOf(mixed)), l)
	}
}

// P9.4: ErrMany for more than MaxList operations, whatever they are.
func TestOfMany(t *testing.T) {
	for _, l := range [][]node{alone(maxList + 1), chain(maxList + 1), wide(100, maxPreds)} {
		checkNoGraph(t, "too many", opsOf(l), api.ErrMany)
		checkNoGraph(t, "too many and open", opsOf(append(l[1:], made(200))), api.ErrMany)
		checkNoGraph(t, "one of them twice", append(opsOf(l[:maxList]), l[0].o), api.ErrMany)
		checkNoGraph(t, "one of them not signed", append(opsOf(l[:maxList]), unsigned(l[0].o)), api.ErrMany)
	}
	for _, n := range []int{maxList + 1, 100, 100000} {
		checkNoGraph(t, "zero operations", make([]api.Op, n), api.ErrMany)
	}
	checkNoGraph(t, "MaxList zero operations", make([]api.Op, maxList), api.ErrBad)
}

// P9.4: op.Verify's error of an operation in any place.
func TestOfFaulty(t *testing.T) {
	l := diamond()
	for i, n := range l {
		for _, f := range faultyOps(n.o) {
			ops := opsOf(l)
			ops[i] = f.o
			checkNoGraph(t, f.name, ops, f.want)
			checkNoGraph(t, f.name+" alone", []api.Op{f.o}, f.want)
			checkNoGraph(t, f.name+" behind MaxList - 1", append(opsOf(chain(maxList-1)), f.o), f.want)
		}
	}
}

// P9.4: of several operations that have an error, the first one's is returned.
func TestOfFirstFaulty(t *testing.T) {
	faults := faultyOps(made(3).o)
	for _, a := range faults {
		for _, b := range faults {
			checkNoGraph(t, a.name+", "+b.name, []api.Op{a.o, b.o}, a.want)
			checkNoGraph(t, a.name+", "+b.name, []api.Op{made(1).o, a.o, made(2).o, b.o}, a.want)
		}
	}
}

// P9.4 and R1: op.Verify's error comes before ErrTwice, and this before ErrOpen.
func TestOfErrorOrder(t *testing.T) {
	l := chain(4)
	for _, f := range faultyOps(l[3].o) {
		checkNoGraph(t, "twice, then "+f.name, []api.Op{l[0].o, l[0].o, f.o}, f.want)
		checkNoGraph(t, f.name+", then twice", []api.Op{f.o, l[0].o, l[0].o}, f.want)
		checkNoGraph(t, "open, then "+f.name, []api.Op{l[1].o, f.o}, f.want)
		checkNoGraph(t, "twice and open, then "+f.name, []api.Op{l[1].o, l[1].o, f.o}, f.want)
	}
	checkNoGraph(t, "twice and open", []api.Op{l[1].o, l[1].o}, api.ErrTwice)
	checkNoGraph(t, "open, then twice", []api.Op{l[2].o, l[0].o, l[0].o}, api.ErrTwice)
	checkNoGraph(t, "twice, then open", []api.Op{l[0].o, l[0].o, l[2].o}, api.ErrTwice)
}

// P9.4: ErrTwice for an operation that is there twice, in any two places.
func TestOfTwice(t *testing.T) {
	for _, l := range smallShapes() {
		for i := range l {
			for j := range len(l) + 1 {
				checkNoGraph(t, "twice", slices.Insert(opsOf(l), j, l[i].o), api.ErrTwice)
			}
		}
	}
	l := alone(maxList - 1)
	checkNoGraph(t, "the first one of MaxList twice", append(opsOf(l), l[0].o), api.ErrTwice)
	checkNoGraph(t, "MaxList times", slices.Repeat(opsOf(l[:1]), maxList), api.ErrTwice)
	checkNoGraph(t, "once more", slices.Repeat(opsOf(l[:1]), maxList+1), api.ErrMany)
}

// P9.4: Check's ErrOpen where a predecessor is missing; the operations of a list may come in any order, but each one is needed.
func TestOfOpen(t *testing.T) {
	for _, l := range smallShapes() {
		for i, n := range l {
			rest := slices.Delete(slices.Clone(l), i, i+1)
			if isNamed(rest, n.id) {
				checkNoGraph(t, "open", opsOf(rest), api.ErrOpen)
			} else {
				checkGraph(t, mustOf(t, opsOf(rest)), rest)
			}
		}
	}
	for _, id := range otherIDs() {
		checkNoGraph(t, "behind nothing", []api.Op{signed(3, api.Op{Act: none()}, node{id: id}).o}, api.ErrOpen)
	}
}
