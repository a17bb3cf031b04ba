package ancestry_test

import (
	"math/rand"
	"slices"
	"testing"

	"braid/api"
	"braid/dag"
)

// drawnGraph is one of the first few operations of a list, often valid, and otherwise wrong in one way or several.
func drawnGraph(draw *rand.Rand, l []node, faults []faulty) api.Graph {
	g := graphOf(l[:draw.Intn(len(l)+1)])
	for draw.Intn(4) == 0 && len(g.Ops) > 0 && len(g.IDs) > 0 {
		i, j := draw.Intn(len(g.Ops)), draw.Intn(len(g.IDs))
		switch draw.Intn(6) {
		case 0:
			g.Ops[i] = faults[draw.Intn(len(faults))].o
		case 1:
			g.IDs = slices.Insert(g.IDs, j, l[0].id)
		case 2:
			g.Ops = slices.Delete(g.Ops, i, i+1)
		case 3:
			slices.Reverse(g.Ops)
			slices.Reverse(g.IDs)
		case 4:
			g.Ops, g.IDs = append(g.Ops, g.Ops[0]), append(g.IDs, g.IDs[0])
		case 5:
			i = min(i, len(g.IDs)-1)
			g = api.Graph{IDs: slices.Delete(g.IDs, i, i+1), Ops: slices.Delete(g.Ops, i, i+1)}
		}
	}
	return g
}

// drawnIDs are ids of operations, and now and then others, some of them several times, in any order.
func drawnIDs(draw *rand.Rand, l []node) []api.ID {
	ids := idsOf(l)
	if draw.Intn(2) == 0 {
		ids = append(ids, otherIDs(ids[0])...)
	}
	var drawn []api.ID
	for range draw.Intn(5) {
		drawn = append(drawn, ids[draw.Intn(len(ids))])
	}
	for draw.Intn(3) == 0 && len(drawn) > 0 && len(drawn) <= maxList {
		drawn = slices.Repeat(drawn, 3)
	}
	return drawn
}

// P10.1 to P10.3, R1 and R7: for graphs, ids and lists of any kind each function returns what was worked out in another way.
func TestLikeTruth(t *testing.T) {
	draw := rand.New(rand.NewSource(110))
	found := map[api.Errno]int{}
	for range 2500 {
		l := scattered(draw, draw.Intn(12)+1)
		g := drawnGraph(draw, l, faultyOps(l[draw.Intn(len(l))].o))
		ids := drawnIDs(draw, l)
		e := dag.Check(g)
		if e != api.OK {
			checkRefused(t, "drawn", g, e)
		} else {
			e = likeTruth(t, g, truthOf(nodesOf(g)), ids)
		}
		found[e]++
	}
	for _, e := range []api.Errno{api.OK, api.ErrNone, api.ErrMany, api.ErrBad, api.ErrOrder, api.ErrOpen} {
		if found[e] < 10 {
			t.Errorf("%v was found only %d times", e, found[e])
		}
	}
}

// likeTruth compares all functions for a valid graph and some ids; it returns the error that Below must have.
func likeTruth(t *testing.T, g api.Graph, w truth, ids []api.ID) api.Errno {
	t.Helper()
	checkHeads(t, g, sorted(idsOf(w.heads())), api.OK)
	checkOrder(t, g, w.order(), api.OK)
	for _, id := range ids[:min(len(ids), 4)] {
		j := w.where(id)
		if j < 0 {
			checkAncestors(t, g, id, nil, api.ErrNone)
			checkDepth(t, g, id, 0, api.ErrNone)
		} else {
			checkAncestors(t, g, id, sorted(idsOf(w.ancestors(j))), api.OK)
			checkDepth(t, g, id, w.depth(j), api.OK)
		}
		i := w.where(ids[0])
		if i < 0 || j < 0 {
			checkIs(t, g, ids[0], id, false, api.ErrNone)
		} else {
			checkIs(t, g, ids[0], id, w.before[i][j], api.OK)
		}
	}
	if len(ids) > maxList {
		checkMissing(t, g, ids, nil, api.ErrMany)
		checkBelow(t, g, ids, nil, api.ErrMany)
		return api.ErrMany
	}
	missing := w.missing(ids)
	checkMissing(t, g, ids, missing, api.OK)
	if len(missing) > 0 {
		checkBelow(t, g, ids, nil, api.ErrNone)
		return api.ErrNone
	}
	checkBelow(t, g, ids, w.below(ids), api.OK)
	return api.OK
}
