package dag_test

import (
	"slices"
	"testing"

	"braid/api"
	"braid/dag"
)

// parts returns lists of operations of a list, each one with the ancestors of its own: what is below each operation, and all of them from the first one to any other.
func parts(l []node) [][]node {
	found := [][]node{nil}
	for i := range l {
		found = append(found, below(l, l[i].id), l[:i+1])
	}
	return found
}

// below are the operation with an id, and all its ancestors, of operations that come behind their predecessors.
func below(l []node, id api.ID) []node {
	wanted := []api.ID{id}
	var part []node
	for i := len(l) - 1; i >= 0; i-- {
		if slices.Contains(wanted, l[i].id) {
			part = append(part, l[i])
			wanted = append(wanted, l[i].o.Preds...)
		}
	}
	return part
}

// together are the operations of two lists, each one once.
func together(a, b []node) []node {
	l := slices.Clone(a)
	for _, n := range b {
		if !slices.ContainsFunc(a, func(m node) bool { return m.id == n.id }) {
			l = append(l, n)
		}
	}
	return l
}

// P9.4: unions of each two parts of a graph, in either order, have the operations of both; Equal tells those that are equal.
func TestUnion(t *testing.T) {
	for _, l := range smallShapes() {
		for _, a := range parts(l) {
			for _, b := range parts(l) {
				g, h := graphOf(a), graphOf(b)
				checkGraph(t, mustUnion(t, g, h), together(a, b))
				equal, e := dag.Equal(g, h)
				if want := sameGraph(g, h); e != api.OK || equal != want {
					t.Errorf("Equal of %d and %d operations = %v, %v, want %v", len(a), len(b), equal, e, want)
				}
			}
		}
	}
}

// P9.4: unions of a graph with itself, with parts of it, and with the graph without operations.
func TestUnionWithParts(t *testing.T) {
	for _, l := range shapes() {
		g := graphOf(l)
		for _, part := range [][]node{nil, l[:len(l)/2], l[:len(l)*9/10], l} {
			checkGraph(t, mustUnion(t, g, graphOf(part)), l)
			checkGraph(t, mustUnion(t, graphOf(part), g), l)
		}
		checkGraph(t, mustUnion(t, g, g), l)
		checkGraph(t, mustUnion(t, g, dag.New()), l)
		checkGraph(t, mustUnion(t, dag.New(), g), l)
	}
}

// P9.4: unions of graphs that have no operation, or only the first ones, in common.
func TestUnionApart(t *testing.T) {
	one, other := alone(20)[:10], alone(20)[10:]
	checkGraph(t, mustUnion(t, graphOf(one), graphOf(other)), alone(20))
	checkGraph(t, mustUnion(t, graphOf(other), graphOf(one)), alone(20))
	l := fork(20)
	left, right := l[:11], slices.Concat(l[:1], l[11:])
	checkGraph(t, mustUnion(t, graphOf(left), graphOf(right)), l)
	checkGraph(t, mustUnion(t, graphOf(right), graphOf(left)), l)
}

// P9.4: ErrMany where there would be more than MaxList operations, each one counted once.
func TestUnionMany(t *testing.T) {
	for _, l := range [][]node{alone(2 * maxList), fork(2*maxList - 1)} {
		for n := 2; n <= maxList; n++ {
			a := l[:n]
			checkGraph(t, mustUnion(t, graphOf(a), graphOf(together(l[:1], l[n:maxList]))), l[:maxList])
			checkPairMany(t, graphOf(a), graphOf(together(l[:1], l[n:maxList+1])))
		}
		whole := graphOf(l[:maxList])
		checkPairMany(t, whole, graphOf(together(l[:1], l[maxList:maxList+1])))
		checkPairMany(t, whole, graphOf(together(l[:1], l[maxList+1:])))
	}
}

// checkPairMany fails unless Union of two valid graphs is ErrMany, while Equal has no error.
func checkPairMany(t *testing.T, a, b api.Graph) {
	t.Helper()
	for range 2 {
		if g, e := dag.Union(a, b); e != api.ErrMany || !isEmpty(g) {
			t.Errorf("Union of %d and %d operations = %v, %v", len(a.Ops), len(b.Ops), g, e)
		}
		if equal, e := dag.Equal(a, b); e != api.OK || equal {
			t.Errorf("Equal of %d and %d operations = %v, %v", len(a.Ops), len(b.Ops), equal, e)
		}
		a, b = b, a
	}
}

// P9.4 and R1: Check's error of the first graph comes before that of the second one, and both before ErrMany.
func TestBothErrors(t *testing.T) {
	l := diamond()
	unnamed := graphOf(l)
	unnamed.IDs = unnamed.IDs[1:]
	down := nodesOf(graphOf(l))
	slices.Reverse(down)
	bad := []struct {
		g    api.Graph
		want api.Errno
	}{{graphOf(alone(maxList + 1)), api.ErrMany}, {unnamed, api.ErrBad}, {inOrder(down), api.ErrOrder}, {graphOf(l[1:]), api.ErrOpen}}
	full := graphOf(alone(maxList))
	for _, a := range bad {
		for _, b := range bad {
			checkPair(t, "both", a.g, b.g, a.want)
		}
		checkPair(t, "the first one", a.g, full, a.want)
		checkPair(t, "the second one", full, a.g, a.want)
	}
}

// P9.4: graphs with the same operations are equal, however they were made.
func TestEqual(t *testing.T) {
	for _, l := range shapes() {
		g := graphOf(l)
		other := mustOf(t, opsOf(l))
		for _, pair := range [][2]api.Graph{{g, g}, {g, other}, {other, g}} {
			if equal, e := dag.Equal(pair[0], pair[1]); e != api.OK || !equal {
				t.Errorf("Equal of %d operations = %v, %v", len(l), equal, e)
			}
		}
	}
	empty := api.Graph{IDs: []api.ID{}, Ops: []api.Op{}}
	if equal, e := dag.Equal(empty, dag.New()); e != api.OK || !equal {
		t.Errorf("Equal of empty and nil lists = %v, %v", equal, e)
	}
	// No predecessors may be nil or empty.
	one, two := graphOf(alone(1)), graphOf(alone(1))
	one.Ops[0].Preds, two.Ops[0].Preds = nil, []api.ID{}
	if equal, e := dag.Equal(one, two); e != api.OK || !equal {
		t.Errorf("Equal with empty and nil predecessors = %v, %v", equal, e)
	}
}

// P9.4: graphs that differ in one operation are not equal, whichever it is: one has it, or each has another one.
func TestNotEqual(t *testing.T) {
	for _, l := range shapes() {
		for i, n := range l {
			rest := slices.Delete(slices.Clone(l), i, i+1)
			if isNamed(rest, n.id) {
				continue
			}
			g, less := graphOf(l), graphOf(rest)
			changed := n.o
			changed.Stamp += 1000
			other := graphOf(append(rest, signed(5, changed, nodesNamed(n.o.Preds)...)))
			for _, pair := range [][2]api.Graph{{g, less}, {less, g}, {g, other}, {other, g}} {
				if equal, e := dag.Equal(pair[0], pair[1]); e != api.OK || equal {
					t.Errorf("Equal of %d and %d operations = %v, %v", len(pair[0].Ops), len(pair[1].Ops), equal, e)
				}
			}
		}
	}
}

// nodesNamed have some ids, and nothing else.
func nodesNamed(ids []api.ID) []node {
	var l []node
	for _, id := range ids {
		l = append(l, node{id: id})
	}
	return l
}
