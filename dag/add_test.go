package dag_test

import (
	"slices"
	"testing"

	"braid/api"
	"braid/dag"
)

// checkNotAdded fails unless Add has an error for an operation, with zero values.
func checkNotAdded(t *testing.T, name string, g api.Graph, o api.Op, want api.Errno) {
	t.Helper()
	if h, id, e := dag.Add(g, o); e != want || !isEmpty(h) || id != (api.ID{}) {
		t.Errorf("%s: Add to %d operations = %v, %x, %v, want %v", name, len(g.Ops), h, id, e, want)
	}
}

// P9.3: operations that are added one by one, each one behind its predecessors; Add returns the id of each.
func TestAdd(t *testing.T) {
	for _, l := range shapes() {
		g := dag.New()
		for i, n := range l {
			g = mustAdd(t, g, n)
			checkGraph(t, g, l[:i+1])
		}
	}
}

// P9.3: an operation is put in any place, the first one and the last one too.
func TestAddPlaces(t *testing.T) {
	l := slices.SortedFunc(slices.Values(alone(12)), func(a, b node) int { return compare(a.id, b.id) })
	for i, n := range l {
		rest := slices.Delete(slices.Clone(l), i, i+1)
		checkGraph(t, mustAdd(t, graphOf(rest), n), l)
	}
}

// P9.3: op.Verify's error of the operation, whichever graph it is added to, and also where a predecessor is missing or there is no room.
func TestAddFaulty(t *testing.T) {
	full := graphOf(alone(maxList))
	for _, n := range append(diamond(), made(500), made(501, made(500))) {
		for _, f := range faultyOps(n.o) {
			for _, g := range []api.Graph{dag.New(), graphOf(diamond()), graphOf(chain(8)), full} {
				checkNotAdded(t, f.name, g, f.o, f.want)
			}
		}
	}
	for _, g := range []api.Graph{dag.New(), full} {
		checkNotAdded(t, "zero", g, api.Op{}, api.ErrBad)
		checkNotAdded(t, "very many predecessors", g, api.Op{Preds: make([]api.ID, 100000)}, api.ErrMany)
	}
}

// P9.3: ErrTwice for what the graph has, also where it is full.
func TestAddTwice(t *testing.T) {
	for _, l := range shapes() {
		g := graphOf(l)
		for _, n := range l {
			checkNotAdded(t, "again", g, n.o, api.ErrTwice)
		}
	}
}

// P9.3: ErrOpen where a predecessor is missing, any one of them.
func TestAddOpen(t *testing.T) {
	for n := 1; n <= maxPreds; n++ {
		l := join(n)
		last := l[n]
		checkNotAdded(t, "to nothing", dag.New(), last.o, api.ErrOpen)
		for i := range n {
			checkNotAdded(t, "all but one", graphOf(slices.Delete(slices.Clone(l[:n]), i, i+1)), last.o, api.ErrOpen)
		}
		checkGraph(t, mustAdd(t, graphOf(l[:n]), last), l)
	}
	l := chain(5)
	checkNotAdded(t, "two behind", graphOf(l[:2]), l[3].o, api.ErrOpen)
	for _, id := range otherIDs(l[0].id) {
		behind := signed(3, api.Op{Act: none()}, node{id: id})
		checkNotAdded(t, "behind nothing", graphOf(l), behind.o, api.ErrOpen)
		both := signed(3, api.Op{Act: none()}, node{id: id}, l[0])
		checkNotAdded(t, "one behind nothing", graphOf(l), both.o, api.ErrOpen)
	}
}

// P9.3: ErrFull where there are MaxList operations, but not where there is room for one; ErrOpen comes before it.
func TestAddFull(t *testing.T) {
	for _, l := range [][]node{alone(maxList + 1), chain(maxList + 1), wide(maxList+1, maxPreds)} {
		checkNotAdded(t, "one too many", graphOf(l[:maxList]), l[maxList].o, api.ErrFull)
		checkNotAdded(t, "full and open", graphOf(l[:maxList]), made(700, made(701)).o, api.ErrOpen)
		checkGraph(t, mustAdd(t, graphOf(l[:maxList-1]), l[maxList-1]), l[:maxList])
	}
}

// P9.3 and R1: Check's error of the graph comes before all that is wrong with the operation.
func TestAddCheckFirst(t *testing.T) {
	l := diamond()
	open := graphOf(l[1:])
	checkNotAdded(t, "an operation that would close it", open, l[0].o, api.ErrOpen)
	checkNotAdded(t, "one that it has", open, l[2].o, api.ErrOpen)
	for _, f := range faultyOps(l[0].o) {
		checkNotAdded(t, f.name, open, f.o, api.ErrOpen)
	}
	checkNotAdded(t, "one that it has", graphOf(alone(maxList+1)), alone(1)[0].o, api.ErrMany)
}
