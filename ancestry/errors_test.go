package ancestry_test

import (
	"slices"
	"strconv"
	"testing"

	"braid/api"
	"braid/dag"
)

// checkRefused fails unless each function has an error for a graph, with zero values, whatever else it is given.
func checkRefused(t *testing.T, name string, g api.Graph, want api.Errno) {
	t.Helper()
	if e := dag.Check(g); e != want {
		t.Errorf("%s: Check = %v, want %v", name, e, want)
	}
	checkHeads(t, g, nil, want)
	checkOrder(t, g, nil, want)
	ids := slices.Concat(g.IDs[:min(len(g.IDs), 2)], otherIDs()[:2])
	for _, o := range g.Ops[:min(len(g.Ops), 3)] {
		ids = append(ids, o.Preds[:min(len(o.Preds), 1)]...)
	}
	for _, id := range ids {
		checkAncestors(t, g, id, nil, want)
		checkDepth(t, g, id, 0, want)
		checkIs(t, g, id, id, false, want)
		checkIs(t, g, ids[0], id, false, want)
		checkIs(t, g, id, ids[0], false, want)
	}
	many := make([]api.ID, maxList+1)
	for _, l := range [][]api.ID{nil, ids, ids[:1], slices.Clone(g.IDs), strangers(2), many} {
		checkMissing(t, g, l, nil, want)
		checkBelow(t, g, l, nil, want)
	}
}

// P10.1 to P10.3: dag.Check's error first, ErrMany where there are too many operations, whatever else is wrong.
func TestTooMany(t *testing.T) {
	for _, l := range [][]node{alone(maxList + 1), chain(maxList + 1)} {
		checkRefused(t, "one too many", graphOf(l), api.ErrMany)
		checkRefused(t, "in another order", inOrder(l), api.ErrMany)
		checkRefused(t, "without ids", api.Graph{Ops: opsOf(l)}, api.ErrMany)
	}
	checkRefused(t, "zero operations", api.Graph{IDs: make([]api.ID, 100), Ops: make([]api.Op, 100)}, api.ErrMany)
}

// P10.1 to P10.3: ErrBad where there are fewer or more ids than operations.
func TestCounts(t *testing.T) {
	for _, l := range [][]node{alone(1), alone(3), chain(4), diamond()} {
		g := graphOf(l)
		checkRefused(t, "no ids", api.Graph{Ops: g.Ops}, api.ErrBad)
		checkRefused(t, "no operations", api.Graph{IDs: g.IDs}, api.ErrBad)
		checkRefused(t, "an id less", api.Graph{IDs: g.IDs[:len(l)-1], Ops: g.Ops}, api.ErrBad)
		checkRefused(t, "an operation less", api.Graph{IDs: g.IDs, Ops: g.Ops[:len(l)-1]}, api.ErrBad)
	}
	checkRefused(t, "many ids alone", api.Graph{IDs: make([]api.ID, 100)}, api.ErrBad)
}

// P10.1 to P10.3: ErrBad for an operation that is not valid or not signed, with or without its id.
func TestFaulty(t *testing.T) {
	for _, f := range faultyOps(made(0).o) {
		g := graphOf(diamond())
		g.Ops[3] = f.o
		checkRefused(t, f.name, g, api.ErrBad)
		checkRefused(t, f.name, api.Graph{IDs: idsOf(alone(1)), Ops: []api.Op{f.o}}, api.ErrBad)
	}
	wrong := named(unsigned(made(0).o))
	checkRefused(t, "not signed", graphOf([]node{wrong}), api.ErrBad)
	checkRefused(t, "behind one that is not signed", graphOf([]node{wrong, made(1, wrong)}), api.ErrBad)
	checkRefused(t, "a zero operation", api.Graph{IDs: make([]api.ID, 1), Ops: make([]api.Op, 1)}, api.ErrBad)
}

// P10.1 to P10.3: ErrBad for ids that are those of other operations, or of none.
func TestWrongIDs(t *testing.T) {
	for i := range 4 {
		other, swapped := graphOf(diamond()), graphOf(diamond())
		other.IDs[i][31] ^= 1
		checkRefused(t, "another id", other, api.ErrBad)
		j := (i + 1) % 4
		swapped.IDs[i], swapped.IDs[j] = swapped.IDs[j], swapped.IDs[i]
		checkRefused(t, "swapped ids", swapped, api.ErrBad)
	}
}

// P10.1 to P10.3: ErrOrder for operations in any other order, and for those that are there twice.
func TestDisorder(t *testing.T) {
	for _, l := range [][]node{alone(2), chain(3), diamond(), alone(maxList)} {
		up := nodesOf(graphOf(l))
		for i := 0; i < len(l)-1; i += max(1, len(l)/4) {
			swapped := slices.Clone(up)
			swapped[i], swapped[i+1] = swapped[i+1], swapped[i]
			checkRefused(t, "swapped at "+strconv.Itoa(i), inOrder(swapped), api.ErrOrder)
		}
		down := slices.Clone(up)
		slices.Reverse(down)
		checkRefused(t, "down", inOrder(down), api.ErrOrder)
		checkRefused(t, "twice", inOrder(slices.Insert(up[:2], 0, up[0])), api.ErrOrder)
	}
}

// P10.1 to P10.3: ErrOpen where a predecessor is missing.
func TestOpen(t *testing.T) {
	for _, l := range [][]node{chain(2), chain(5), diamond(), join(maxPreds), fork(5)} {
		checkRefused(t, "without the first one", graphOf(l[1:]), api.ErrOpen)
	}
	l := diamond()
	checkRefused(t, "without b", graphOf([]node{l[0], l[2], l[3]}), api.ErrOpen)
	checkRefused(t, "behind nothing", graphOf(append(alone(3), signed(3, api.Op{Act: none()}, node{id: api.ID{1}}))), api.ErrOpen)
}

// R1: dag.Check's errors keep their order.
func TestOrderOfErrors(t *testing.T) {
	l := chain(maxList + 1)
	l[0] = made(1000)
	down := nodesOf(graphOf(l))
	slices.Reverse(down)
	checkRefused(t, "many, bad, not in order and open", api.Graph{Ops: opsOf(down)}, api.ErrMany)
	checkRefused(t, "bad, not in order and open", api.Graph{Ops: opsOf(down[1:])}, api.ErrBad)
	checkRefused(t, "not in order and open", inOrder(down[1:]), api.ErrOrder)
	checkRefused(t, "open", graphOf(down[1:]), api.ErrOpen)
}
