package store_test

import (
	"encoding/hex"
	"math/rand"
	"slices"
	"testing"

	"braid/api"
	"braid/dag"
	"braid/shard"
	"braid/store"
)

func newDraw() *rand.Rand {
	return rand.New(rand.NewSource(122))
}

func mustGraph(t *testing.T, s api.Store) api.Graph {
	t.Helper()
	g, e := store.Graph(s)
	if e != api.OK {
		t.Fatalf("Graph of %d operations: %v", len(s.Order), e)
	}
	return g
}

func mustSince(t *testing.T, s api.Store, version int) []api.ID {
	t.Helper()
	l, e := store.Since(s, version)
	if e != api.OK {
		t.Fatalf("Since %d of %d operations: %v", version, len(s.Order), e)
	}
	return l
}

// The chapter's example, in one run and one by one.
func TestExamples(t *testing.T) {
	a, c := made(0), made(2)
	b := made(1, a)
	offered := []node{b, a, b, b, c}
	verdicts := []uint8{api.Waiting, api.Committed, api.Committed, api.Duplicate, api.StoreFull}
	for n := 1; n <= maxShards; n++ {
		s, want := mustNew(t, 2, n), storeOf([]node{a, b}, 2, n)
		checkRun(t, "the example", s, opsOf(offered), want, verdicts, api.OK)
		for i, m := range offered {
			s = mustOffer(t, s, m, verdicts[i])
		}
		if !sameStore(s, want) {
			t.Errorf("the store of the example is %v", s)
		}
		checkSince(t, s, 1, []api.ID{b.id}, api.OK)
	}
}

// knownID is the id with some digits to the base 16.
func knownID(digits string) api.ID {
	b, err := hex.DecodeString(digits)
	if err != nil || len(b) != 32 {
		panic("no id")
	}
	return api.ID(b)
}

// knownNodes are operations whose signatures and ids were worked out apart from the program; the third one is behind the first.
func knownNodes() []node {
	first := node{api.Op{Author: 1024, Stamp: 7, Act: none(), Sig: api.Sig{E: 0x0d9dd7d8, S: 0x0511b610}},
		knownID("827f5e9a79e57a00feb1b836bc22776361a9534c3b353010f97d0e2cdb0f0b70")}
	return []node{first,
		{api.Op{Author: 1024, Stamp: 7, Act: add("a"), Sig: api.Sig{E: 0x077aef99, S: 0x128d5af4}},
			knownID("899024286940bae63d3e61dec47ee8f0c74a03db20d24c11473c6f9c69def338")},
		{api.Op{Author: 16, Preds: []api.ID{first.id}, Stamp: 300, Act: remove("!~"), Sig: api.Sig{E: 0x172ea4ae, S: 0x1370eb20}},
			knownID("573c8e098f42c16676c7f776709c660ac8546441dee44a323d4beffb27ff78a0")},
		{api.Op{Author: 0x12d3608c, Stamp: maxStamp, Act: set("x", num(-2)), Sig: api.Sig{E: 0x0705864a, S: 0x1490d7a5}},
			knownID("8c05e865a48a95bbb26c9ee5449b1f3ba0d18410ef90856690f08cc82556fd5b")},
	}
}

// Stores of known operations, whose ids begin with 57 (behind 82), 82, 89 and 8c, which are 87, 130, 137 and 140.
func TestKnown(t *testing.T) {
	l := knownNodes()
	n82, n89, n57, n8c := l[0], l[1], l[2], l[3]
	for _, parts := range [][][]node{
		{{n57, n82, n89}},
		{{n82}, {n57, n89}},
		{{n57}, {n82}, {n89}},
		{{}, {n89}, {n82}, {n57}},
	} {
		want := api.Store{Cap: 3, Shards: api.Shards{Heads: []api.ID{n57.id, n89.id}, Version: 3}, Order: []api.ID{n89.id, n82.id, n57.id}}
		for _, p := range parts {
			want.Shards.Parts = append(want.Shards.Parts, inOrder(p))
		}
		verdicts := []uint8{api.Waiting, api.Committed, api.Committed, api.Duplicate, api.Committed, api.StoreFull, api.Duplicate}
		checkRun(t, "known", mustNew(t, 3, len(parts)), opsOf([]node{n57, n89, n82, n82, n57, n8c, n57}), want, verdicts, api.OK)
		checkStore(t, "known", want, api.OK)
		checkGraph(t, want, inOrder([]node{n57, n82, n89}), api.OK)
		checkSince(t, want, 1, []api.ID{n82.id, n57.id}, api.OK)
		checkMissing(t, "known", mustNew(t, 3, len(parts)), n57.o, []api.ID{n82.id}, api.OK)
		checkHas(t, want, n57.id, true, api.OK)
		checkHas(t, want, n8c.id, false, api.OK)
	}
}

// drawnRun is operations of a list in any order, some more than once, at most MaxList.
func drawnRun(draw *rand.Rand, l []node) []node {
	var run []node
	for range draw.Intn(min(3*len(l), maxList) + 1) {
		run = append(run, l[draw.Intn(len(l))])
	}
	return run
}

// drawnCase is a store with some operations of a list, and a run of this; often there is no room for all.
func drawnCase(draw *rand.Rand, size int) (api.Store, []node) {
	l := scattered(draw, draw.Intn(size)+1)
	there := l[:draw.Intn(min(len(l), maxStore)+1)]
	capacity := max(1, len(there)+draw.Intn(min(len(l), maxStore)-len(there)+1))
	return storeOf(anyOrder(draw, there), capacity, draw.Intn(maxShards)+1), drawnRun(draw, l)
}

// P12.4: committed are the first operations that fit: those whose predecessors were committed before, which are not there yet, and for which there is room.
func TestCommittedAreFirst(t *testing.T) {
	draw := newDraw()
	found := map[uint8]int{}
	for range 150 {
		s, run := drawnCase(draw, 20)
		order := slices.Clone(s.Order)
		next, verdicts := mustRun(t, s, opsOf(run))
		for i, m := range run {
			fits := !slices.Contains(order, m.id) && len(order) < s.Cap
			for _, id := range m.o.Preds {
				fits = fits && slices.Contains(order, id)
			}
			if fits {
				order = append(order, m.id)
			}
			if (verdicts[i] == api.Committed) != fits {
				t.Errorf("the verdict is %d", verdicts[i])
			}
			found[verdicts[i]]++
		}
		if !slices.Equal(next.Order, order) || next.Shards.Version != len(order) {
			t.Errorf("committed are %x, want %x", next.Order, order)
		}
	}
	for _, v := range []uint8{api.Committed, api.Duplicate, api.Waiting, api.StoreFull} {
		if found[v] < 40 {
			t.Errorf("the verdict %d was found only %d times", v, found[v])
		}
	}
}

// P12.4: a run in two parts is a run, wherever it is cut; and so is one operation offered after the other.
func TestRunInParts(t *testing.T) {
	draw := newDraw()
	for range 12 {
		s, run := drawnCase(draw, 9)
		ops := opsOf(run)
		whole, verdicts := mustRun(t, s, ops)
		for cut := range len(ops) + 1 {
			first, before := mustRun(t, s, ops[:cut])
			checkRun(t, "the second part", first, ops[cut:], whole, verdicts[len(before):], api.OK)
			if !slices.Equal(before, verdicts[:cut]) {
				t.Errorf("the verdicts of the first part are %d, want %d", before, verdicts[:cut])
			}
		}
		one := s
		for i, m := range run {
			one = mustOffer(t, one, m, verdicts[i])
		}
		if !sameStore(one, whole) {
			t.Errorf("one after the other they make %v, want %v", one, whole)
		}
	}
}

// P12.4: the ids with the verdict Committed are, in order, what Since returns for the version before the run.
func TestCommittedAreSince(t *testing.T) {
	draw := newDraw()
	for range 100 {
		s, run := drawnCase(draw, 14)
		next, verdicts := mustRun(t, s, opsOf(run))
		var committed []api.ID
		for i, v := range verdicts {
			if v == api.Committed {
				committed = append(committed, run[i].id)
			}
		}
		checkSince(t, next, s.Shards.Version, committed, api.OK)
		checkSince(t, next, 0, append(mustSince(t, s, 0), committed...), api.OK)
	}
}

// P12.4: a run with more shards has the same verdicts, order and graph, and the same heads and version.
func TestShardsDoNotMatter(t *testing.T) {
	draw := newDraw()
	for range 40 {
		l := scattered(draw, draw.Intn(14)+1)
		ops, capacity := opsOf(drawnRun(draw, l)), draw.Intn(len(l))+1
		one, want := mustRun(t, mustNew(t, capacity, 1), ops)
		for n := 2; n <= maxShards; n++ {
			s, verdicts := mustRun(t, mustNew(t, capacity, n), ops)
			if !slices.Equal(verdicts, want) || !slices.Equal(s.Order, one.Order) || !slices.Equal(s.Shards.Heads, one.Shards.Heads) || s.Shards.Version != one.Shards.Version {
				t.Errorf("with %d shards: %d, want %d", n, verdicts, want)
			}
			checkGraph(t, s, mustGraph(t, one), api.OK)
			if len(s.Shards.Parts) != n || s.Cap != capacity {
				t.Errorf("%d shards became %d, and the capacity %d", n, len(s.Shards.Parts), s.Cap)
			}
		}
	}
}

// P12.4: what is offered again is Duplicate just if it was committed.
func TestOfferedAgain(t *testing.T) {
	draw := newDraw()
	for range 60 {
		s, run := drawnCase(draw, 9)
		next, _ := mustRun(t, s, opsOf(run))
		for _, m := range run {
			_, v, e := store.Offer(next, m.o)
			if e != api.OK || (v == api.Duplicate) != slices.Contains(next.Order, m.id) {
				t.Errorf("offered again it is %d, %v", v, e)
			}
		}
		committed := slices.DeleteFunc(run, func(m node) bool { return !slices.Contains(next.Order, m.id) })
		checkRun(t, "again", next, opsOf(committed), next, times(api.Duplicate, len(committed)), api.OK)
	}
}

// P12.4: after any run the store is valid, its graph closed and that of what was committed, as dag.Of and shard.Put make it.
func TestAfterRun(t *testing.T) {
	draw := newDraw()
	for range 60 {
		s, run := drawnCase(draw, 14)
		before := mustGraph(t, s)
		next, verdicts := mustRun(t, s, opsOf(run))
		checkStore(t, "after a run", next, api.OK)
		index, ops := s.Shards, before.Ops
		for i, v := range verdicts {
			if v != api.Committed {
				continue
			}
			ops = append(ops, run[i].o)
			put, _, e := shard.Put(index, run[i].o)
			if e != api.OK {
				t.Fatalf("Put: %v", e)
			}
			index = put
		}
		want, e := dag.Of(ops)
		if e != api.OK {
			t.Fatalf("Of: %v", e)
		}
		checkGraph(t, next, want, api.OK)
		if !sameIndex(next.Shards, index) || next.Cap != s.Cap {
			t.Errorf("the index after a run is %v, want %v", next.Shards, index)
		}
	}
}

// P12.4: in whatever order operations are offered, again and again, all of them are committed in the end, and the graph is that of their list.
func TestAgainAndAgain(t *testing.T) {
	draw := newDraw()
	for _, l := range smallShapes() {
		for n := 1; n <= maxShards; n++ {
			ops := opsOf(l)
			draw.Shuffle(len(ops), func(i, j int) { ops[i], ops[j] = ops[j], ops[i] })
			s := mustNew(t, max(1, len(l)), n)
			for round := 0; s.Shards.Version < len(l); round++ {
				if round > len(l) {
					t.Fatalf("%d operations are not committed", len(l)-s.Shards.Version)
				}
				s, _ = mustRun(t, s, ops)
			}
			checkStore(t, "in the end", s, api.OK)
			checkGraph(t, s, graphOf(l), api.OK)
			if !sameIndex(s.Shards, indexOf(l, n)) || !slices.Equal(sorted(s.Order), sorted(idsOf(l))) {
				t.Errorf("%d operations in %d shards are %v", len(l), n, s)
			}
		}
	}
}
