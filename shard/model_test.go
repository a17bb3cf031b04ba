package shard_test

import (
	"crypto/sha256"
	"math/rand"
	"slices"
	"testing"

	"braid/api"
	"braid/op"
	"braid/shard"
)

// model is an index with its operations in a map; the parts are worked out from this when they are asked for.
type model struct {
	n   int
	ops map[api.ID]api.Op
}

// modelOf returns the model of an index, and whether this is valid; no cycle is known.
func modelOf(s api.Shards) (model, bool) {
	m := model{n: len(s.Parts), ops: map[api.ID]api.Op{}}
	if m.n == 0 || m.n > maxShards {
		return m, false
	}
	for _, p := range s.Parts {
		if len(p.IDs) != len(p.Ops) {
			return m, false
		}
		for i, o := range p.Ops {
			b, e := op.Encode(o)
			if e != api.OK || op.Verify(o) != api.OK || sha256.Sum256(b) != p.IDs[i] {
				return m, false
			}
			m.ops[p.IDs[i]] = o
		}
	}
	if len(m.ops) > maxList || !m.closed() {
		return m, false
	}
	// Each set of operations has just one index with so many parts.
	return m, sameIndex(s, m.index())
}

func (m model) closed() bool {
	for _, o := range m.ops {
		if !m.hasAll(o.Preds) {
			return false
		}
	}
	return true
}

func (m model) hasAll(ids []api.ID) bool {
	for _, id := range ids {
		if _, found := m.ops[id]; !found {
			return false
		}
	}
	return true
}

func (m model) nodes() []node {
	var l []node
	for id, o := range m.ops {
		l = append(l, node{o, id})
	}
	return l
}

func (m model) index() api.Shards {
	return indexOf(m.nodes(), m.n)
}

// put is the error of Put for an operation, which is in the model afterwards if there is none.
func (m model) put(o api.Op) api.Errno {
	if e := op.Verify(o); e != api.OK {
		return e
	}
	n := named(o)
	_, found := m.ops[n.id]
	switch {
	case found:
		return api.ErrTwice
	case !m.hasAll(o.Preds):
		return api.ErrOpen
	case len(m.ops) == maxList:
		return api.ErrFull
	}
	m.ops[n.id] = o
	return api.OK
}

// drawnIndex is an index of operations of a list, often valid, and otherwise wrong in one way or several.
func drawnIndex(draw *rand.Rand, l []node, faults []faulty) api.Shards {
	var part []node
	for _, n := range l[:draw.Intn(len(l)+1)] {
		if draw.Intn(40) > 0 {
			part = append(part, n)
		}
	}
	s := indexOf(part, draw.Intn(maxShards)+1)
	for draw.Intn(3) == 0 {
		i := draw.Intn(len(s.Parts))
		switch draw.Intn(8) {
		case 0:
			s.Version += draw.Intn(5) - 2
		case 1:
			s.Heads = drawnIDs(draw, s.Heads, l)
		case 2:
			j := draw.Intn(len(s.Parts))
			s.Parts[i], s.Parts[j] = s.Parts[j], s.Parts[i]
		case 3:
			s.Parts = append(s.Parts, api.Graph{})
		case 4:
			s.Parts[i].IDs = drawnIDs(draw, s.Parts[i].IDs, l)
		case 5:
			s.Parts[i] = graphOf(append(nodesOf(firstOnes(s.Parts[i])), l[draw.Intn(len(l))]))
		case 6:
			s.Parts[i] = drawnOps(draw, s.Parts[i], faults)
		case 7:
			s.Parts[i] = firstOnes(s.Parts[i])
		}
	}
	return s
}

// firstOnes are the first ids and operations of a part, as many of both.
func firstOnes(g api.Graph) api.Graph {
	n := min(len(g.IDs), len(g.Ops))
	return api.Graph{IDs: slices.Clone(g.IDs[:n]), Ops: slices.Clone(g.Ops[:n])}
}

// drawnIDs are ids with one of a list more, one less, one other one, or in another order.
func drawnIDs(draw *rand.Rand, ids []api.ID, l []node) []api.ID {
	ids = slices.Clone(ids)
	if len(ids) == 0 || draw.Intn(4) == 0 {
		return sorted(append(ids, l[draw.Intn(len(l))].id))
	}
	i := draw.Intn(len(ids))
	switch draw.Intn(3) {
	case 0:
		return slices.Delete(ids, i, i+1)
	case 1:
		ids[i] = l[draw.Intn(len(l))].id
		return ids
	}
	return mixed(draw, ids)
}

// drawnOps is a part with a faulty operation, or two swapped.
func drawnOps(draw *rand.Rand, g api.Graph, faults []faulty) api.Graph {
	if len(g.Ops) == 0 {
		return g
	}
	i, j := draw.Intn(len(g.Ops)), draw.Intn(len(g.Ops))
	if draw.Intn(2) == 0 {
		g.Ops[i] = faults[draw.Intn(len(faults))].o
	} else {
		g.Ops[i], g.Ops[j] = g.Ops[j], g.Ops[i]
	}
	return g
}

// P11.1 to P11.4 and R7: for indices and operations of any kind each function returns what the model does.
func TestLikeModel(t *testing.T) {
	draw := rand.New(rand.NewSource(113))
	found := map[api.Errno]int{}
	valid := 0
	for range 900 {
		l := scattered(draw, draw.Intn(12)+1)
		faults := faultyOps(l[draw.Intn(len(l))].o)
		s := drawnIndex(draw, l, faults)
		m, ok := modelOf(s)
		if !ok {
			checkRefused(t, "drawn", s)
			continue
		}
		valid++
		checkIndex(t, "drawn", s, api.OK)
		for _, id := range append(idsOf(l), otherIDs(l[0].id)...) {
			likeModel(t, s, m, id)
		}
		checkAll(t, s, graphOf(m.nodes()), api.OK)
		checkHeads(t, s, headsOf(m.nodes()), len(m.ops), api.OK)
		for _, o := range []api.Op{l[draw.Intn(len(l))].o, l[draw.Intn(len(l))].o, faults[draw.Intn(len(faults))].o, made(1000).o} {
			found[likePut(t, s, o)]++
		}
	}
	if valid < 200 || valid > 700 {
		t.Errorf("%d of the drawn indices are valid", valid)
	}
	for _, e := range []api.Errno{api.OK, api.ErrMany, api.ErrBad, api.ErrTwice, api.ErrFalse, api.ErrOrder, api.ErrOpen} {
		if found[e] < 20 {
			t.Errorf("%v was found only %d times", e, found[e])
		}
	}
}

func likeModel(t *testing.T, s api.Shards, m model, id api.ID) {
	t.Helper()
	o, has := m.ops[id]
	checkNumber(t, s, id, int(id[0])%m.n, api.OK)
	checkHas(t, s, id, has, api.OK)
	if has {
		checkGet(t, s, id, o, api.OK)
	} else {
		checkGet(t, s, id, api.Op{}, api.ErrNone)
	}
}

func likePut(t *testing.T, s api.Shards, o api.Op) api.Errno {
	t.Helper()
	m, _ := modelOf(s)
	e := m.put(o)
	if e != api.OK {
		checkNotPut(t, "drawn", s, o, e)
	} else {
		checkPut(t, s, named(o), m.index())
	}
	return e
}

// P11.3: what is offered one by one is put, or refused, as the model does it, until the index is full.
func TestPutLikeModel(t *testing.T) {
	draw := rand.New(rand.NewSource(114))
	l := scattered(draw, maxList+8)
	for n := 1; n <= maxShards; n++ {
		s, m := mustNew(t, n), model{n, map[api.ID]api.Op{}}
		for range 9 {
			for _, i := range draw.Perm(len(l)) {
				next, id, e := shard.Put(s, l[i].o)
				if want := m.put(l[i].o); e != want || e == api.OK && id != l[i].id {
					t.Fatalf("Put = %x, %v, want %v", id, e, want)
				}
				if e == api.OK {
					s = next
				}
			}
			if !sameIndex(s, m.index()) {
				t.Errorf("%d operations in %d parts are %v", len(m.ops), n, s)
			}
		}
		if s.Version != maxList {
			t.Errorf("%d operations were put", s.Version)
		}
	}
}
