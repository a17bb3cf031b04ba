package ancestry_test

import (
	"encoding/hex"
	"math/rand"
	"slices"
	"testing"

	"braid/ancestry"
	"braid/api"
	"braid/dag"
)

// The must functions fail where there is an error.

func mustAncestors(t *testing.T, g api.Graph, id api.ID) []api.ID {
	t.Helper()
	l, e := ancestry.Ancestors(g, id)
	if e != api.OK {
		t.Fatalf("Ancestors in %d operations: %v", len(g.Ops), e)
	}
	return l
}

func mustHeads(t *testing.T, g api.Graph) []api.ID {
	t.Helper()
	l, e := ancestry.Heads(g)
	if e != api.OK {
		t.Fatalf("Heads of %d operations: %v", len(g.Ops), e)
	}
	return l
}

func mustOrder(t *testing.T, g api.Graph) []api.ID {
	t.Helper()
	l, e := ancestry.Order(g)
	if e != api.OK {
		t.Fatalf("Order of %d operations: %v", len(g.Ops), e)
	}
	return l
}

func mustDepth(t *testing.T, g api.Graph, id api.ID) int {
	t.Helper()
	n, e := ancestry.Depth(g, id)
	if e != api.OK {
		t.Fatalf("Depth in %d operations: %v", len(g.Ops), e)
	}
	return n
}

func mustBelow(t *testing.T, g api.Graph, l []api.ID) api.Graph {
	t.Helper()
	h, e := ancestry.Below(g, l)
	if e != api.OK {
		t.Fatalf("Below in %d operations: %v", len(g.Ops), e)
	}
	return h
}

// The chapter's example, with b and c in either order of their ids.
func TestExample(t *testing.T) {
	var orders [2]int
	for seed := range 12 {
		a := made(10 * seed)
		b, c := made(10*seed+1, a), made(10*seed+2, a)
		d := made(10*seed+3, b, c)
		g := graphOf([]node{a, b, c, d})
		checkHeads(t, g, []api.ID{d.id}, api.OK)
		checkAncestors(t, g, d.id, sorted([]api.ID{a.id, b.id, c.id}), api.OK)
		checkDepth(t, g, d.id, 2, api.OK)
		if compare(b.id, c.id) < 0 {
			orders[0]++
			checkOrder(t, g, []api.ID{a.id, b.id, c.id, d.id}, api.OK)
		} else {
			orders[1]++
			checkOrder(t, g, []api.ID{a.id, c.id, b.id, d.id}, api.OK)
		}
		checkBelow(t, g, []api.ID{b.id}, []node{a, b}, api.OK)
		checkBelow(t, g, []api.ID{c.id}, []node{a, c}, api.OK)
	}
	if orders[0] == 0 || orders[1] == 0 {
		t.Errorf("b and c are in the orders %v", orders)
	}
}

// knownID is the id with some digits to the base 16.
func knownID(digits string) api.ID {
	b, err := hex.DecodeString(digits)
	if err != nil || len(b) != 32 {
		panic("no id")
	}
	return api.ID(b)
}

// knownNodes are operations whose signatures and ids were worked out apart from the program; the third one is behind the first.
func knownNodes() []node {
	first := node{api.Op{Author: 1024, Stamp: 7, Act: none(), Sig: api.Sig{E: 0x0d9dd7d8, S: 0x0511b610}},
		knownID("827f5e9a79e57a00feb1b836bc22776361a9534c3b353010f97d0e2cdb0f0b70")}
	return []node{first,
		{api.Op{Author: 1024, Stamp: 7, Act: add("a"), Sig: api.Sig{E: 0x077aef99, S: 0x128d5af4}},
			knownID("899024286940bae63d3e61dec47ee8f0c74a03db20d24c11473c6f9c69def338")},
		{api.Op{Author: 16, Preds: []api.ID{first.id}, Stamp: 300, Act: remove("!~"), Sig: api.Sig{E: 0x172ea4ae, S: 0x1370eb20}},
			knownID("573c8e098f42c16676c7f776709c660ac8546441dee44a323d4beffb27ff78a0")},
		{api.Op{Author: 0x12d3608c, Stamp: maxStamp, Act: set("x", num(-2)), Sig: api.Sig{E: 0x0705864a, S: 0x1490d7a5}},
			knownID("8c05e865a48a95bbb26c9ee5449b1f3ba0d18410ef90856690f08cc82556fd5b")},
	}
}

// A graph of known operations, whose ids begin with 57 (behind 82), 82, 89 and 8c.
func TestKnown(t *testing.T) {
	l := knownNodes()
	b82, b89, b57, b8c := l[0].id, l[1].id, l[2].id, l[3].id
	g := inOrder([]node{l[2], l[0], l[1], l[3]})
	checkHeads(t, g, []api.ID{b57, b89, b8c}, api.OK)
	checkOrder(t, g, []api.ID{b82, b57, b89, b8c}, api.OK)
	checkAncestors(t, g, b57, []api.ID{b82}, api.OK)
	checkAncestors(t, g, b82, nil, api.OK)
	checkIs(t, g, b82, b57, true, api.OK)
	checkIs(t, g, b57, b82, false, api.OK)
	checkIs(t, g, b82, b89, false, api.OK)
	checkDepth(t, g, b57, 1, api.OK)
	checkDepth(t, g, b8c, 0, api.OK)
	checkMissing(t, g, []api.ID{{0x90}, b89, {0x10}, {0x90}, b57}, []api.ID{{0x10}, {0x90}}, api.OK)
	checkBelow(t, g, []api.ID{b8c, b57}, []node{l[2], l[0], l[3]}, api.OK)
}

// predsOf are the predecessors of the operation of a graph with an id.
func predsOf(t *testing.T, g api.Graph, id api.ID) []api.ID {
	t.Helper()
	o, e := dag.Get(g, id)
	if e != api.OK {
		t.Fatalf("Get from %d operations: %v", len(g.Ops), e)
	}
	return o.Preds
}

func hasAll(l, part []api.ID) bool {
	return !slices.ContainsFunc(part, func(id api.ID) bool { return !slices.Contains(l, id) })
}

// P10.4: the ancestors of an operation have its predecessors, and with each operation its predecessors; without any one of them, and those that are only there because of it, this is so no more.
func TestLeastSet(t *testing.T) {
	for _, l := range smallShapes() {
		g := graphOf(l)
		for _, n := range l {
			set := mustAncestors(t, g, n.id)
			if !isClosed(t, g, set, n.o.Preds) {
				t.Errorf("the ancestors of %x are not closed", n.id)
			}
			// The least set is in each such set: there is none without an ancestor.
			for _, subset := range subsets(idsOf(l)) {
				if isClosed(t, g, subset, n.o.Preds) && !hasAll(subset, set) {
					t.Errorf("%d ids are closed without all ancestors", len(subset))
				}
			}
		}
	}
}

// isClosed reports whether ids have those of a list, and with each operation its predecessors.
func isClosed(t *testing.T, g api.Graph, ids, l []api.ID) bool {
	t.Helper()
	if !hasAll(ids, l) {
		return false
	}
	for _, id := range ids {
		if !hasAll(ids, g.Ops[slices.Index(g.IDs, id)].Preds) {
			return false
		}
	}
	return true
}

// subsets are all subsets of at most seven ids, and some of more.
func subsets(ids []api.ID) [][]api.ID {
	draw := rand.New(rand.NewSource(107))
	var l [][]api.ID
	for bits := range 128 {
		if len(ids) > 7 {
			bits = draw.Intn(1 << len(ids))
		}
		var subset []api.ID
		for i, id := range ids {
			if bits>>i&1 != 0 {
				subset = append(subset, id)
			}
		}
		l = append(l, subset)
	}
	return l
}

// P10.4: the ancestors of an operation are its predecessors and their ancestors; Is tells just them, and they have lesser depths.
func TestAncestorLaws(t *testing.T) {
	for _, l := range smallShapes() {
		g := graphOf(l)
		for _, n := range l {
			set := mustAncestors(t, g, n.id)
			all := slices.Clone(predsOf(t, g, n.id))
			for _, id := range n.o.Preds {
				all = append(all, mustAncestors(t, g, id)...)
			}
			if !slices.Equal(set, slices.Compact(sorted(all))) {
				t.Errorf("the ancestors of %x are not its predecessors and theirs", n.id)
			}
			for _, m := range l {
				is, e := ancestry.Is(g, m.id, n.id)
				if e != api.OK || is != slices.Contains(set, m.id) {
					t.Errorf("Is = %v, %v", is, e)
				}
				if is && mustDepth(t, g, m.id) >= mustDepth(t, g, n.id) {
					t.Errorf("the ancestor %x of %x has no lesser depth", m.id, n.id)
				}
			}
		}
	}
}

// P10.4: the depth is 0 without predecessors, and otherwise one more than the greatest of theirs.
func TestDepthLaws(t *testing.T) {
	for _, l := range smallShapes() {
		g := graphOf(l)
		for _, n := range l {
			want := 0
			for _, id := range n.o.Preds {
				want = max(want, mustDepth(t, g, id)+1)
			}
			checkDepth(t, g, n.id, want, api.OK)
		}
	}
}

// P10.4: the canonical order has each id once, and each one behind its ancestors; none could have been taken earlier in the place of one with a greater id.
func TestOrderLaws(t *testing.T) {
	for _, l := range shapes() {
		g := graphOf(l)
		order := mustOrder(t, g)
		if !slices.Equal(sorted(order), g.IDs) {
			t.Errorf("%d of %d ids are ordered", len(order), len(g.IDs))
		}
		w := truthOf(l)
		for i, id := range order {
			at := w.where(id)
			if !hasAll(order[:i], idsOf(w.ancestors(at))) {
				t.Errorf("%x is before an ancestor", id)
			}
			for j := range i {
				if compare(id, order[j]) < 0 && hasAll(order[:j], l[at].o.Preds) {
					t.Errorf("%x could have been taken before %x", id, order[j])
				}
			}
		}
	}
}

// P10.4: the canonical order depends on the graph alone, not on the list that it was made of, nor on how it was put together.
func TestOrderOfLists(t *testing.T) {
	draw := rand.New(rand.NewSource(108))
	for _, l := range shapes() {
		want := mustOrder(t, graphOf(l))
		ops := opsOf(l)
		for range 3 {
			draw.Shuffle(len(ops), func(i, j int) { ops[i], ops[j] = ops[j], ops[i] })
			g, e := dag.Of(ops)
			if e != api.OK {
				t.Fatalf("Of %d operations: %v", len(ops), e)
			}
			checkOrder(t, g, want, api.OK)
		}
		grown := dag.New()
		for _, n := range l {
			g, _, e := dag.Add(grown, n.o)
			if e != api.OK {
				t.Fatalf("Add to %d operations: %v", len(grown.Ops), e)
			}
			grown = g
		}
		checkOrder(t, grown, want, api.OK)
	}
}

// P10.4: each operation is a head, or an ancestor of one, and not both; what is below all heads is the graph.
func TestHeadLaws(t *testing.T) {
	for _, l := range shapes() {
		g := graphOf(l)
		heads := mustHeads(t, g)
		var before []api.ID
		for _, id := range heads {
			before = append(before, mustAncestors(t, g, id)...)
		}
		for _, id := range g.IDs {
			if slices.Contains(heads, id) == slices.Contains(before, id) {
				t.Errorf("%x is a head and an ancestor of one, or neither", id)
			}
		}
		checkBelow(t, g, heads, l, api.OK)
		if len(heads) > 1 {
			checkBelow(t, g, heads[1:], truthOf(l).below(heads[1:]), api.OK)
			if whole := mustBelow(t, g, heads[1:]); len(whole.Ops) >= len(l) {
				t.Errorf("the graph is below fewer than all of its heads")
			}
		}
	}
}

// P10.4: what is below ids is a valid graph; ancestors, depths and missing ids in it are those in the whole graph, and what is below what is below is the same.
func TestBelowLaws(t *testing.T) {
	draw := rand.New(rand.NewSource(109))
	for _, l := range smallShapes() {
		g := graphOf(l)
		ids := mixed(draw, g.IDs)[:(len(l)+2)/3]
		part := mustBelow(t, g, ids)
		if e := dag.Check(part); e != api.OK {
			t.Errorf("Check of what is below %d ids = %v", len(ids), e)
		}
		if again := mustBelow(t, part, ids); !sameGraph(again, part) {
			t.Errorf("what is below %d ids is another thing in it", len(ids))
		}
		if again := mustBelow(t, g, part.IDs); !sameGraph(again, part) {
			t.Errorf("below what is below %d ids is more", len(ids))
		}
		if !hasAll(ids, mustHeads(t, part)) {
			t.Errorf("a head of what is below %d ids is none of them", len(ids))
		}
		for _, id := range part.IDs {
			checkAncestors(t, part, id, mustAncestors(t, g, id), api.OK)
			checkDepth(t, part, id, mustDepth(t, g, id), api.OK)
		}
		rest := slices.DeleteFunc(slices.Clone(g.IDs), func(id api.ID) bool { return slices.Contains(part.IDs, id) })
		checkMissing(t, part, g.IDs, rest, api.OK)
		checkMissing(t, g, part.IDs, nil, api.OK)
	}
}
