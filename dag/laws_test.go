package dag_test

import (
	"encoding/hex"
	"math/rand"
	"slices"
	"testing"

	"braid/api"
	"braid/dag"
)

// The chapter's examples.
func TestExamples(t *testing.T) {
	l := chain(2)
	one, id, e := dag.Add(dag.New(), l[0].o)
	if e != api.OK || id != l[0].id {
		t.Fatalf("Add = %x, %v", id, e)
	}
	checkGraph(t, one, l[:1])
	two, id, e := dag.Add(one, l[1].o)
	if e != api.OK || id != l[1].id {
		t.Fatalf("Add = %x, %v", id, e)
	}
	checkGraph(t, two, l)
	checkNotAdded(t, "without the first one", dag.New(), l[1].o, api.ErrOpen)
	checkNotAdded(t, "the first one again", one, l[0].o, api.ErrTwice)
	checkNotAdded(t, "the first one again", two, l[0].o, api.ErrTwice)
}

// knownID is the id with some digits to the base 16.
func knownID(digits string) api.ID {
	b, err := hex.DecodeString(digits)
	if err != nil || len(b) != 32 {
		panic("no id")
	}
	return api.ID(b)
}

// knownNodes are operations whose signatures and ids were worked out apart from the program; the third one is behind the first.
func knownNodes() []node {
	first := node{api.Op{Author: 1024, Stamp: 7, Act: none(), Sig: api.Sig{E: 0x0d9dd7d8, S: 0x0511b610}},
		knownID("827f5e9a79e57a00feb1b836bc22776361a9534c3b353010f97d0e2cdb0f0b70")}
	return []node{first,
		{api.Op{Author: 1024, Stamp: 7, Act: add("a"), Sig: api.Sig{E: 0x077aef99, S: 0x128d5af4}},
			knownID("899024286940bae63d3e61dec47ee8f0c74a03db20d24c11473c6f9c69def338")},
		{api.Op{Author: 16, Preds: []api.ID{first.id}, Stamp: 300, Act: remove("!~"), Sig: api.Sig{E: 0x172ea4ae, S: 0x1370eb20}},
			knownID("573c8e098f42c16676c7f776709c660ac8546441dee44a323d4beffb27ff78a0")},
		{api.Op{Author: 0x12d3608c, Stamp: maxStamp, Act: set("x", num(-2)), Sig: api.Sig{E: 0x0705864a, S: 0x1490d7a5}},
			knownID("8c05e865a48a95bbb26c9ee5449b1f3ba0d18410ef90856690f08cc82556fd5b")},
	}
}

// The graph of known operations, in the order of their ids.
func TestKnown(t *testing.T) {
	l := knownNodes()
	want := inOrder([]node{l[2], l[0], l[1], l[3]})
	if e := dag.Check(want); e != api.OK {
		t.Errorf("Check = %v", e)
	}
	if g := mustOf(t, opsOf(l)); !sameGraph(g, want) {
		t.Errorf("Of = %v, want %v", g, want)
	}
	g := mustAdd(t, mustAdd(t, mustAdd(t, mustAdd(t, dag.New(), l[0]), l[1]), l[2]), l[3])
	if !sameGraph(g, want) {
		t.Errorf("Add = %v, want %v", g, want)
	}
	if g := mustUnion(t, graphOf([]node{l[2], l[0]}), graphOf([]node{l[1], l[0], l[3]})); !sameGraph(g, want) {
		t.Errorf("Union = %v, want %v", g, want)
	}
	checkNoGraph(t, "without the first one", opsOf(l[1:]), api.ErrOpen)
}

// anyOrder is another order of operations in which each one is behind its predecessors.
func anyOrder(draw *rand.Rand, l []node) []node {
	var taken []node
	for len(taken) < len(l) {
		n := l[draw.Intn(len(l))]
		has := func(id api.ID) bool { return slices.Contains(idsOf(taken), id) }
		if !has(n.id) && !slices.ContainsFunc(n.o.Preds, func(id api.ID) bool { return !has(id) }) {
			taken = append(taken, n)
		}
	}
	return taken
}

// P9.5: operations that are added one by one, in any order in which each one is behind its predecessors, make the graph of their list, which is valid all along.
func TestAddedOneByOne(t *testing.T) {
	draw := rand.New(rand.NewSource(95))
	for _, l := range shapes() {
		want := mustOf(t, opsOf(l))
		g := dag.New()
		for _, n := range anyOrder(draw, l) {
			g = mustAdd(t, g, n)
			if e := dag.Check(g); e != api.OK {
				t.Errorf("Check after %d of %d = %v", len(g.Ops), len(l), e)
			}
			if has, e := dag.Has(g, n.id); e != api.OK || !has {
				t.Errorf("Has of what was added = %v, %v", has, e)
			}
		}
		if equal, e := dag.Equal(g, want); e != api.OK || !equal || !sameGraph(g, want) {
			t.Errorf("%d operations added one by one are not the graph of their list", len(l))
		}
	}
}

// P9.5: what could not be added changes nothing, and can be added once its predecessors are there.
func TestAddedAgain(t *testing.T) {
	draw := rand.New(rand.NewSource(96))
	for _, l := range smallShapes() {
		mixed := slices.Clone(l)
		draw.Shuffle(len(mixed), func(i, j int) { mixed[i], mixed[j] = mixed[j], mixed[i] })
		g := dag.New()
		for round := 0; len(g.Ops) < len(l); round++ {
			if round > len(l) {
				t.Fatalf("%d operations cannot be added", len(l))
			}
			for _, n := range mixed {
				sum, _, e := dag.Add(g, n.o)
				if e == api.OK {
					g = sum
				} else if e != api.ErrTwice && e != api.ErrOpen {
					t.Errorf("Add = %v", e)
				}
			}
		}
		checkGraph(t, g, l)
	}
}

// P9.5: a union is the same in whatever order graphs are named; it is valid, and has what either has.
func TestUnionLaws(t *testing.T) {
	draw := rand.New(rand.NewSource(97))
	for range 200 {
		l := scattered(draw, draw.Intn(18)+3)
		all := parts(l)
		a, b, c := graphOf(all[draw.Intn(len(all))]), graphOf(all[draw.Intn(len(all))]), graphOf(all[draw.Intn(len(all))])
		ab := mustUnion(t, a, b)
		if !sameGraph(ab, mustUnion(t, b, a)) {
			t.Error("a union depends on the order of two graphs")
		}
		if !sameGraph(mustUnion(t, ab, c), mustUnion(t, a, mustUnion(t, b, c))) {
			t.Error("a union depends on the order of three graphs")
		}
		if !sameGraph(mustUnion(t, ab, a), ab) || !sameGraph(mustUnion(t, b, ab), ab) || !sameGraph(mustUnion(t, ab, ab), ab) {
			t.Error("a union with a part of it is not itself")
		}
		if e := dag.Check(ab); e != api.OK {
			t.Errorf("Check of a union = %v", e)
		}
		for _, n := range l {
			inA, _ := dag.Has(a, n.id)
			inB, _ := dag.Has(b, n.id)
			if in, e := dag.Has(ab, n.id); e != api.OK || in != (inA || inB) {
				t.Errorf("Has of a union = %v, %v", in, e)
			}
		}
	}
}

// P9.5: the graph of a list is the union of the graphs of two lists of it.
func TestUnionOfLists(t *testing.T) {
	for _, l := range shapes() {
		whole := mustOf(t, opsOf(l))
		for i := 0; i <= len(l); i += max(1, len(l)/7) {
			first := mustOf(t, opsOf(l[:i]))
			if !sameGraph(mustUnion(t, first, whole), whole) || !sameGraph(mustUnion(t, whole, first), whole) {
				t.Errorf("the union of %d of %d and all is not all", i, len(l))
			}
			for _, n := range l[i:] {
				first = mustUnion(t, first, graphOf(below(l, n.id)))
			}
			if !sameGraph(first, whole) {
				t.Errorf("%d operations and what is below each of the others are not all", i)
			}
		}
	}
}

// P9.4 and P9.5: Equal is reflexive and symmetric, and tells just what is the same.
func TestEqualLaws(t *testing.T) {
	draw := rand.New(rand.NewSource(98))
	l := scattered(draw, 12)
	all := append(parts(l), parts(diamond())...)
	for _, a := range all {
		for _, b := range all {
			g, h := graphOf(a), graphOf(b)
			one, e := dag.Equal(g, h)
			two, f := dag.Equal(h, g)
			if e != api.OK || f != api.OK || one != two || one != sameGraph(g, h) {
				t.Errorf("Equal = %v, %v and %v, %v", one, e, two, f)
			}
		}
	}
}
