package shard_test

import (
	"slices"
	"testing"

	"braid/api"
	"braid/shard"
)

func mustNew(t *testing.T, n int) api.Shards {
	t.Helper()
	s, e := shard.New(n)
	if e != api.OK {
		t.Fatalf("New(%d): %v", n, e)
	}
	return s
}

func mustPut(t *testing.T, s api.Shards, n node) api.Shards {
	t.Helper()
	next, id, e := shard.Put(s, n.o)
	if e != api.OK || id != n.id {
		t.Fatalf("Put of %x into %d operations = %x, %v", n.id, s.Version, id, e)
	}
	return next
}

// P11.3: operations put one by one, each one behind its predecessors: each is in its part then, and parts, heads and version are right after each.
func TestPut(t *testing.T) {
	for _, l := range shapes() {
		for n := 1; n <= maxShards; n++ {
			s := mustNew(t, n)
			for i, m := range l {
				s = mustPut(t, s, m)
				if !sameIndex(s, indexOf(l[:i+1], n)) {
					t.Errorf("%d of %d operations in %d parts are %v", i+1, len(l), n, s)
				}
			}
		}
	}
}

// P11.3: heads and versions after each operation, told one by one.
func TestPutHeads(t *testing.T) {
	a := made(0)
	b, c := made(1, a), made(2, a)
	d, other := made(3, b, c), made(4)
	for n := 1; n <= maxShards; n++ {
		s := mustNew(t, n)
		for i, step := range []struct {
			put   node
			heads []node
		}{
			{a, []node{a}}, {b, []node{b}}, {c, []node{b, c}}, {other, []node{b, c, other}}, {d, []node{d, other}}, {made(5, a), []node{d, other, made(5, a)}},
		} {
			s = mustPut(t, s, step.put)
			checkHeads(t, s, sorted(idsOf(step.heads)), i+1, api.OK)
		}
	}
}

// P11.3: an operation is put into its part in any place, the first one and the last one too; all other parts stay.
func TestPutPlaces(t *testing.T) {
	l := alone(14)
	for i, m := range l {
		rest := slices.Delete(slices.Clone(l), i, i+1)
		for n := 1; n <= maxShards; n++ {
			before := indexOf(rest, n)
			checkPut(t, before, m, indexOf(l, n))
			for j, p := range mustPut(t, before, m).Parts {
				if j == int(m.id[0])%n {
					if at := slices.Index(p.IDs, m.id); at < 0 || !same(p.Ops[at], m.o) {
						t.Errorf("%x is not in its part", m.id)
					}
				} else if !sameGraph(p, before.Parts[j]) {
					t.Errorf("the part %d has changed to %v", j, p)
				}
			}
		}
	}
}

// P11.3: ids whose first byte is less than the number of parts, the same, and more.
func TestPutFirstBytes(t *testing.T) {
	for first := range byte(2*maxShards + 2) {
		m := beginning(first)
		for n := 1; n <= maxShards; n++ {
			want := api.Shards{Parts: make([]api.Graph, n), Heads: []api.ID{m.id}, Version: 1}
			want.Parts[int(first)%n] = inOrder([]node{m})
			checkPut(t, mustNew(t, n), m, want)
		}
	}
}

// P11.3: op.Verify's error of the operation, whichever index it is put into, and also where a predecessor is missing or there is no room.
func TestPutFaulty(t *testing.T) {
	for _, m := range []node{diamond()[0], diamond()[3], made(500), made(501, made(500))} {
		for _, f := range faultyOps(m.o) {
			for _, l := range [][]node{nil, diamond(), alone(maxList)} {
				for _, s := range indices(l) {
					checkNotPut(t, f.name, s, f.o, f.want)
				}
			}
		}
	}
	for _, l := range [][]node{nil, alone(maxList)} {
		for _, s := range indices(l) {
			checkNotPut(t, "zero", s, api.Op{}, api.ErrBad)
			checkNotPut(t, "very many predecessors", s, api.Op{Preds: make([]api.ID, 100000)}, api.ErrMany)
		}
	}
}

// P11.3: ErrTwice for what the index has, also where it is full.
func TestPutTwice(t *testing.T) {
	for _, l := range shapes() {
		for _, s := range indices(l) {
			for i := 0; i < len(l); i += max(1, len(l)/6) {
				checkNotPut(t, "again", s, l[i].o, api.ErrTwice)
			}
		}
	}
}

// P11.3: ErrOpen where a predecessor is missing, any one of them.
func TestPutOpen(t *testing.T) {
	for n := 1; n <= maxPreds; n++ {
		l := join(n)
		last := l[n]
		for i := range n {
			for _, s := range indices(slices.Delete(slices.Clone(l[:n]), i, i+1)) {
				checkNotPut(t, "all but one", s, last.o, api.ErrOpen)
			}
		}
		for parts := 1; parts <= maxShards; parts++ {
			checkNotPut(t, "into nothing", indexOf(nil, parts), last.o, api.ErrOpen)
			checkPut(t, indexOf(l[:n], parts), last, indexOf(l, parts))
		}
	}
	l := chain(5)
	for _, s := range indices(l[:2]) {
		checkNotPut(t, "two behind", s, l[3].o, api.ErrOpen)
		for _, id := range otherIDs(l[0].id) {
			checkNotPut(t, "behind nothing", s, signed(3, api.Op{Act: none()}, node{id: id}).o, api.ErrOpen)
			checkNotPut(t, "one behind nothing", s, signed(3, api.Op{Act: none()}, node{id: id}, l[0]).o, api.ErrOpen)
		}
	}
}

// P11.3: ErrFull where there are MaxList operations in all parts together, but not where there is room for one; ErrOpen comes before it.
func TestPutFull(t *testing.T) {
	for _, l := range [][]node{alone(maxList + 1), chain(maxList + 1), wide(maxList+1, maxPreds)} {
		for n := 1; n <= maxShards; n++ {
			full := indexOf(l[:maxList], n)
			checkNotPut(t, "one too many", full, l[maxList].o, api.ErrFull)
			checkNotPut(t, "full and open", full, made(700, made(701)).o, api.ErrOpen)
			checkPut(t, indexOf(l[:maxList-1], n), l[maxList-1], full)
		}
	}
}

// P11.3: all operations may be in one part, and the others empty.
func TestPutOnePart(t *testing.T) {
	var l []node
	for i := range 6 {
		l = append(l, beginning(3, l[max(0, i-1):]...))
	}
	for n := 1; n <= maxShards; n++ {
		s := mustNew(t, n)
		for _, m := range l {
			s = mustPut(t, s, m)
		}
		want := api.Shards{Parts: make([]api.Graph, n), Heads: idsOf(l[5:]), Version: 6}
		want.Parts[3%n] = graphOf(l)
		if !sameIndex(s, want) {
			t.Errorf("%d parts are %v, want %v", n, s, want)
		}
	}
}

// P11.3 and R1: Check's error of the index comes before all that is wrong with the operation.
func TestPutCheckFirst(t *testing.T) {
	l := diamond()
	for _, s := range indices(l[1:]) {
		checkNotPut(t, "one that would close it", s, l[0].o, api.ErrBad)
		checkNotPut(t, "one that it has", s, l[2].o, api.ErrBad)
		for _, f := range faultyOps(l[0].o) {
			checkNotPut(t, f.name, s, f.o, api.ErrBad)
		}
	}
	for _, s := range indices(alone(maxList)) {
		s.Version--
		checkNotPut(t, "into a full one", s, made(800).o, api.ErrBad)
		checkNotPut(t, "one that it has", s, made(0).o, api.ErrBad)
	}
}
