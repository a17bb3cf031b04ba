package dag_test

import (
	"crypto/sha256"
	"math/rand"
	"slices"
	"testing"

	"braid/api"
	"braid/dag"
	"braid/op"
)

// The model has operations by their ids, in maps, and each function once more.

// wantCheck is what Check has to return; no cycle is known.
func wantCheck(g api.Graph) api.Errno {
	if len(g.Ops) > maxList {
		return api.ErrMany
	}
	if len(g.IDs) != len(g.Ops) {
		return api.ErrBad
	}
	for i, o := range g.Ops {
		b, e := op.Encode(o)
		if e != api.OK || op.Verify(o) != api.OK || sha256.Sum256(b) != g.IDs[i] {
			return api.ErrBad
		}
	}
	for i := 1; i < len(g.IDs); i++ {
		if compare(g.IDs[i-1], g.IDs[i]) >= 0 {
			return api.ErrOrder
		}
	}
	return wantClosed(opsByID(g.Ops))
}

// wantClosed is ErrOpen unless operations have all predecessors among them.
func wantClosed(ops map[api.ID]api.Op) api.Errno {
	for _, o := range ops {
		for _, id := range o.Preds {
			if _, found := ops[id]; !found {
				return api.ErrOpen
			}
		}
	}
	return api.OK
}

// opsByID has valid operations by their ids.
func opsByID(l []api.Op) map[api.ID]api.Op {
	ops := map[api.ID]api.Op{}
	for _, o := range l {
		n := named(o)
		ops[n.id] = n.o
	}
	return ops
}

func graphOfMap(ops map[api.ID]api.Op) api.Graph {
	var l []node
	for id, o := range ops {
		l = append(l, node{o, id})
	}
	return graphOf(l)
}

func wantOf(l []api.Op) (api.Graph, api.Errno) {
	if len(l) > maxList {
		return api.Graph{}, api.ErrMany
	}
	for _, o := range l {
		if e := op.Verify(o); e != api.OK {
			return api.Graph{}, e
		}
	}
	ops := opsByID(l)
	if len(ops) != len(l) {
		return api.Graph{}, api.ErrTwice
	}
	if e := wantClosed(ops); e != api.OK {
		return api.Graph{}, e
	}
	return graphOfMap(ops), api.OK
}

func wantAdd(g api.Graph, o api.Op) (api.Graph, api.Errno) {
	if e := wantCheck(g); e != api.OK {
		return api.Graph{}, e
	}
	if e := op.Verify(o); e != api.OK {
		return api.Graph{}, e
	}
	ops := opsByID(append(slices.Clone(g.Ops), o))
	switch {
	case len(ops) == len(g.Ops):
		return api.Graph{}, api.ErrTwice
	case wantClosed(ops) != api.OK:
		return api.Graph{}, api.ErrOpen
	case len(ops) > maxList:
		return api.Graph{}, api.ErrFull
	}
	return graphOfMap(ops), api.OK
}

func wantUnion(a, b api.Graph) (api.Graph, api.Errno) {
	if e := wantCheck(a); e != api.OK {
		return api.Graph{}, e
	}
	if e := wantCheck(b); e != api.OK {
		return api.Graph{}, e
	}
	ops := opsByID(slices.Concat(a.Ops, b.Ops))
	if len(ops) > maxList {
		return api.Graph{}, api.ErrMany
	}
	return graphOfMap(ops), api.OK
}

// drawnOps are operations of a list, each one with some chance, now and then with another one that is faulty, or there twice, in any order.
func drawnOps(draw *rand.Rand, l []node, faults []faulty) []api.Op {
	var ops []api.Op
	often := draw.Intn(12) + 1
	for _, n := range l {
		if draw.Intn(often+1) > 0 {
			ops = append(ops, copyOp(n.o))
		}
	}
	if draw.Intn(6) == 0 {
		ops = append(ops, faults[draw.Intn(len(faults))].o)
	}
	if draw.Intn(6) == 0 && len(ops) > 0 {
		ops = append(ops, ops[draw.Intn(len(ops))])
	}
	draw.Shuffle(len(ops), func(i, j int) { ops[i], ops[j] = ops[j], ops[i] })
	return ops
}

// drawnGraph is one of operations of a list, often valid, and otherwise wrong in one way or several.
func drawnGraph(draw *rand.Rand, l []node, faults []faulty) api.Graph {
	part := parts(l)[draw.Intn(2*len(l)+1)]
	g := graphOf(part)
	for draw.Intn(4) == 0 && len(g.Ops) > 0 {
		i, j := draw.Intn(len(g.Ops)), draw.Intn(len(g.IDs)+1)
		switch draw.Intn(6) {
		case 0:
			g.Ops[i] = faults[draw.Intn(len(faults))].o
		case 1:
			g.IDs = slices.Insert(g.IDs, j, l[0].id)
		case 2:
			g.Ops = slices.Delete(g.Ops, i, i+1)
		case 3:
			slices.Reverse(g.Ops)
			slices.Reverse(g.IDs)
		case 4:
			g.Ops, g.IDs = append(g.Ops, g.Ops[0]), append(g.IDs, g.IDs[0])
		case 5:
			k := min(i, len(g.IDs)-1)
			g = api.Graph{IDs: slices.Delete(g.IDs, k, k+1), Ops: slices.Delete(g.Ops, i, i+1)}
		}
		if len(g.IDs) == 0 {
			break
		}
	}
	return g
}

// R7 and P1: for graphs and lists of any kind each function returns what the model does.
func TestLikeModel(t *testing.T) {
	draw := rand.New(rand.NewSource(99))
	found := map[api.Errno]int{}
	for range 4000 {
		l := scattered(draw, draw.Intn(10)+1)
		faults := faultyOps(l[draw.Intn(len(l))].o)
		a, b := drawnGraph(draw, l, faults), drawnGraph(draw, l, faults)
		found[likeCheck(t, a)]++
		likeUnion(t, a, b)
		ops := drawnOps(draw, l, faults)
		found[likeOf(t, ops)]++
		if len(ops) > 0 {
			found[likeAdd(t, a, ops[0])]++
		}
	}
	for _, e := range []api.Errno{api.OK, api.ErrBad, api.ErrOrder, api.ErrOpen, api.ErrTwice, api.ErrFalse, api.ErrMany} {
		if found[e] < 20 {
			t.Errorf("%v was found only %d times", e, found[e])
		}
	}
}

func likeCheck(t *testing.T, g api.Graph) api.Errno {
	t.Helper()
	e, want := dag.Check(g), wantCheck(g)
	if e != want {
		t.Errorf("Check(%v) = %v, want %v", g, e, want)
	}
	return want
}

func likeOf(t *testing.T, l []api.Op) api.Errno {
	t.Helper()
	g, e := dag.Of(l)
	if want, f := wantOf(l); e != f || !sameGraph(g, want) {
		t.Errorf("Of(%v) = %v, %v, want %v, %v", l, g, e, want, f)
	}
	return e
}

func likeAdd(t *testing.T, g api.Graph, o api.Op) api.Errno {
	t.Helper()
	sum, id, e := dag.Add(g, o)
	want, f := wantAdd(g, o)
	wantID := api.ID{}
	if f == api.OK {
		wantID = named(o).id
	}
	if e != f || id != wantID || !sameGraph(sum, want) {
		t.Errorf("Add(%v, %v) = %v, %x, %v, want %v, %x, %v", g, o, sum, id, e, want, wantID, f)
	}
	return e
}

func likeUnion(t *testing.T, a, b api.Graph) {
	t.Helper()
	g, e := dag.Union(a, b)
	want, f := wantUnion(a, b)
	if e != f || !sameGraph(g, want) {
		t.Errorf("Union(%v, %v) = %v, %v, want %v, %v", a, b, g, e, want, f)
	}
	equal, e := dag.Equal(a, b)
	if e != f || equal != (f == api.OK && sameGraph(a, b)) {
		t.Errorf("Equal(%v, %v) = %v, %v", a, b, equal, e)
	}
}
