package shard_test

import (
	"encoding/hex"
	"math/rand"
	"slices"
	"testing"

	"braid/ancestry"
	"braid/api"
	"braid/dag"
	"braid/shard"
)

func newDraw() *rand.Rand {
	return rand.New(rand.NewSource(112))
}

func mustAll(t *testing.T, s api.Shards) api.Graph {
	t.Helper()
	g, e := shard.All(s)
	if e != api.OK {
		t.Fatalf("All of %d parts: %v", len(s.Parts), e)
	}
	return g
}

// The chapter's examples.
func TestExamples(t *testing.T) {
	s := mustNew(t, 4)
	checkNumber(t, s, api.ID{7}, 3, api.OK)
	checkNumber(t, s, api.ID{7, 1, 2, 3}, 3, api.OK)
	l := chain(2)
	s = mustPut(t, mustPut(t, s, l[0]), l[1])
	checkHeads(t, s, []api.ID{l[1].id}, 2, api.OK)
	// An operation whose id begins with 7 is in the part 3.
	seven := beginning(7)
	if s := mustPut(t, mustNew(t, 4), seven); !sameGraph(s.Parts[3], inOrder([]node{seven})) {
		t.Errorf("an id that begins with 7 makes %v", s)
	}
}

// knownID is the id with some digits to the base 16.
func knownID(digits string) api.ID {
	b, err := hex.DecodeString(digits)
	if err != nil || len(b) != 32 {
		panic("no id")
	}
	return api.ID(b)
}

// knownNodes are operations whose signatures and ids were worked out apart from the program; the third one is behind the first.
func knownNodes() []node {
	first := node{api.Op{Author: 1024, Stamp: 7, Act: none(), Sig: api.Sig{E: 0x0d9dd7d8, S: 0x0511b610}},
		knownID("827f5e9a79e57a00feb1b836bc22776361a9534c3b353010f97d0e2cdb0f0b70")}
	return []node{first,
		{api.Op{Author: 1024, Stamp: 7, Act: add("a"), Sig: api.Sig{E: 0x077aef99, S: 0x128d5af4}},
			knownID("899024286940bae63d3e61dec47ee8f0c74a03db20d24c11473c6f9c69def338")},
		{api.Op{Author: 16, Preds: []api.ID{first.id}, Stamp: 300, Act: remove("!~"), Sig: api.Sig{E: 0x172ea4ae, S: 0x1370eb20}},
			knownID("573c8e098f42c16676c7f776709c660ac8546441dee44a323d4beffb27ff78a0")},
		{api.Op{Author: 0x12d3608c, Stamp: maxStamp, Act: set("x", num(-2)), Sig: api.Sig{E: 0x0705864a, S: 0x1490d7a5}},
			knownID("8c05e865a48a95bbb26c9ee5449b1f3ba0d18410ef90856690f08cc82556fd5b")},
	}
}

// Indices of known operations, whose ids begin with 57 (behind 82), 82, 89 and 8c, which are 87, 130, 137 and 140.
func TestKnown(t *testing.T) {
	l := knownNodes()
	n82, n89, n57, n8c := l[0], l[1], l[2], l[3]
	heads := []api.ID{n57.id, n89.id, n8c.id}
	for _, parts := range [][][]node{
		{{n57, n82, n89, n8c}},
		{{n82, n8c}, {n57, n89}},
		{{n57}, {n82}, {n89, n8c}},
		{{n8c}, {n89}, {n82}, {n57}},
	} {
		want := api.Shards{Heads: heads, Version: 4}
		for _, p := range parts {
			want.Parts = append(want.Parts, inOrder(p))
		}
		checkIndex(t, "known", want, api.OK)
		s := mustNew(t, len(parts))
		for _, n := range l {
			s = mustPut(t, s, n)
		}
		if !sameIndex(s, want) {
			t.Errorf("%d parts are %v, want %v", len(parts), s, want)
		}
		checkAll(t, s, inOrder([]node{n57, n82, n89, n8c}), api.OK)
		checkHeads(t, s, heads, 4, api.OK)
		checkGet(t, s, n57.id, n57.o, api.OK)
		checkGet(t, s, api.ID{0x57}, api.Op{}, api.ErrNone)
	}
}

// offered are operations that are put into indices and added to graphs: some that they have, that are behind others, and faulty ones.
func offered(draw *rand.Rand, l []node) []api.Op {
	ops := opsOf(l)
	for _, f := range faultyOps(l[draw.Intn(len(l))].o) {
		ops = append(ops, f.o)
	}
	ops = append(ops, ops[:len(l)/2]...)
	draw.Shuffle(len(ops), func(i, j int) { ops[i], ops[j] = ops[j], ops[i] })
	return slices.Concat(ops, ops)
}

// P11.5: the graph after Put is what dag.Add makes of the graph before, with the same id and the same errors.
func TestPutIsAdd(t *testing.T) {
	draw := newDraw()
	found := map[api.Errno]int{}
	for range 2 {
		l := append(scattered(draw, 20), alone(maxList)[20:]...)
		ops := append(offered(draw, l), opsOf(alone(maxList+20))...)
		for n := 1; n <= maxShards; n++ {
			s, g := mustNew(t, n), dag.New()
			for _, o := range ops {
				next, id, e := shard.Put(s, o)
				sum, wantID, want := dag.Add(g, o)
				if e != want || id != wantID {
					t.Fatalf("Put = %x, %v, and Add = %x, %v", id, e, wantID, want)
				}
				found[e]++
				if e == api.OK {
					s, g = next, sum
				}
				if !sameGraph(mustAll(t, s), g) {
					t.Fatalf("the graph of %d parts is not that of Add", n)
				}
			}
		}
	}
	for _, e := range []api.Errno{api.OK, api.ErrMany, api.ErrBad, api.ErrTwice, api.ErrFull, api.ErrFalse, api.ErrOrder, api.ErrOpen} {
		if found[e] < 16 {
			t.Errorf("%v was found only %d times", e, found[e])
		}
	}
}

// P11.5: the heads after Put are those before without the predecessors of the operation, and the operation; they are those of the graph, and the version is one more.
func TestHeadsAfterPut(t *testing.T) {
	for _, l := range append(smallShapes(), braided(7)) {
		for n := 1; n <= maxShards; n++ {
			s := mustNew(t, n)
			for _, m := range l {
				before, version, e := shard.Heads(s)
				if e != api.OK {
					t.Fatalf("Heads: %v", e)
				}
				want := slices.DeleteFunc(before, func(id api.ID) bool { return slices.Contains(m.o.Preds, id) })
				s = mustPut(t, s, m)
				checkHeads(t, s, sorted(append(want, m.id)), version+1, api.OK)
				if heads, e := ancestry.Heads(mustAll(t, s)); e != api.OK || !slices.Equal(heads, s.Heads) {
					t.Errorf("the heads of the graph are %x, %v", heads, e)
				}
			}
		}
	}
}

// P11.5: how many parts there are does not matter for the graph, the heads, the version and what the index has; nor does the order in which operations are put, each one behind its predecessors.
func TestPartsDoNotMatter(t *testing.T) {
	draw := newDraw()
	for _, l := range smallShapes() {
		want := graphOf(l)
		for n := 1; n <= maxShards; n++ {
			s := mustNew(t, n)
			for _, m := range anyOrder(draw, l) {
				s = mustPut(t, s, m)
			}
			checkAll(t, s, want, api.OK)
			checkHeads(t, s, headsOf(l), len(l), api.OK)
			for _, id := range append(idsOf(l), otherIDs()...) {
				has, e := dag.Has(want, id)
				checkHas(t, s, id, has, e)
				o, e := dag.Get(want, id)
				checkGet(t, s, id, o, e)
			}
		}
	}
}

// anyOrder is another order of operations in which each one is behind its predecessors.
func anyOrder(draw *rand.Rand, l []node) []node {
	var taken []node
	for len(taken) < len(l) {
		n := l[draw.Intn(len(l))]
		has := func(id api.ID) bool { return slices.Contains(idsOf(taken), id) }
		if !has(n.id) && !slices.ContainsFunc(n.o.Preds, func(id api.ID) bool { return !has(id) }) {
			taken = append(taken, n)
		}
	}
	return taken
}

// P11.5: parts together are the graph, each id is in one of them, and each of them is in order.
func TestPartsAreGraph(t *testing.T) {
	for _, l := range smallShapes() {
		for n := 1; n <= maxShards; n++ {
			s := mustNew(t, n)
			for _, m := range l {
				s = mustPut(t, s, m)
			}
			var all []node
			for i, p := range s.Parts {
				for _, id := range p.IDs {
					checkNumber(t, s, id, i, api.OK)
				}
				all = append(all, nodesOf(p)...)
			}
			if !sameGraph(graphOf(all), mustAll(t, s)) || len(s.Parts) != n {
				t.Errorf("%d parts together are not the graph", len(s.Parts))
			}
			checkIndex(t, "after all", s, api.OK)
		}
	}
}

// P11.5: an operation that could not be put changes nothing, and can be put once its predecessors are there.
func TestPutAgain(t *testing.T) {
	draw := newDraw()
	for _, l := range smallShapes() {
		for n := 1; n <= maxShards; n++ {
			mixed := slices.Clone(l)
			draw.Shuffle(len(mixed), func(i, j int) { mixed[i], mixed[j] = mixed[j], mixed[i] })
			s := mustNew(t, n)
			for round := 0; s.Version < len(l); round++ {
				if round > len(l) {
					t.Fatalf("%d operations cannot be put", len(l))
				}
				for _, m := range mixed {
					next, _, e := shard.Put(s, m.o)
					if e == api.OK {
						s = next
					} else if e != api.ErrTwice && e != api.ErrOpen {
						t.Errorf("Put = %v", e)
					}
				}
			}
			if !sameIndex(s, indexOf(l, n)) {
				t.Errorf("%d operations in %d parts are %v", len(l), n, s)
			}
		}
	}
}
