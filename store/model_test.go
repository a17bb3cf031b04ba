package store_test

import (
	"crypto/sha256"
	"math"
	"math/rand"
	"slices"
	"testing"

	"braid/api"
	"braid/op"
	"braid/store"
)

// model is a store with its operations in a map; the index is worked out from this when it is asked for.
type model struct {
	capacity, n int
	ops         map[api.ID]api.Op
	order       []api.ID
}

// modelOf returns the model of a store, and whether this is valid; no cycle is known.
func modelOf(s api.Store) (model, bool) {
	m := model{capacity: s.Cap, n: len(s.Shards.Parts), ops: map[api.ID]api.Op{}}
	if m.n == 0 || m.n > maxShards || s.Cap < 1 || s.Cap > maxStore {
		return m, false
	}
	listed := map[api.ID]api.Op{}
	for _, p := range s.Shards.Parts {
		if len(p.IDs) != len(p.Ops) {
			return m, false
		}
		for i, o := range p.Ops {
			b, e := op.Encode(o)
			if e != api.OK || op.Verify(o) != api.OK || sha256.Sum256(b) != p.IDs[i] {
				return m, false
			}
			listed[p.IDs[i]] = o
		}
	}
	// A store is what becomes of its operations, committed in their order.
	for _, id := range s.Order {
		o, found := listed[id]
		if !found || m.offer(node{o, id}) != api.Committed {
			return m, false
		}
	}
	return m, sameStore(s, m.store())
}

func (m model) nodes() []node {
	var l []node
	for _, id := range m.order {
		l = append(l, node{m.ops[id], id})
	}
	return l
}

func (m model) store() api.Store {
	return storeOf(m.nodes(), m.capacity, m.n)
}

func (m model) missing(o api.Op) []api.ID {
	lost := map[api.ID]bool{}
	for _, id := range o.Preds {
		lost[id] = true
	}
	for id := range m.ops {
		delete(lost, id)
	}
	var l []api.ID
	for id := range lost {
		l = append(l, id)
	}
	return sorted(l)
}

// offer is the verdict on a signed operation, which is in the model afterwards if it is Committed.
func (m *model) offer(n node) uint8 {
	if _, found := m.ops[n.id]; found {
		return api.Duplicate
	}
	if len(m.missing(n.o)) > 0 {
		return api.Waiting
	}
	if len(m.ops) >= m.capacity {
		return api.StoreFull
	}
	m.ops[n.id] = n.o
	m.order = append(m.order, n.id)
	return api.Committed
}

// drawnStore is a store of operations of a list, often valid, and otherwise wrong in one way or several.
func drawnStore(draw *rand.Rand, l []node, faults []faulty) api.Store {
	var part []node
	for _, n := range l[:draw.Intn(len(l)+1)] {
		if draw.Intn(40) > 0 {
			part = append(part, n)
		}
	}
	s := storeOf(part, max(1, len(part)+draw.Intn(4)), draw.Intn(maxShards)+1)
	for draw.Intn(3) == 0 {
		i := draw.Intn(len(s.Shards.Parts))
		switch p := &s.Shards.Parts[i]; draw.Intn(7) {
		case 0:
			s.Cap += draw.Intn(7) - 4
		case 1:
			s.Cap = []int{0, -1, maxStore, maxStore + 1, math.MaxInt, math.MinInt}[draw.Intn(6)]
		case 2, 3:
			s.Order = drawnIDs(draw, s.Order, l)
		case 4:
			s.Shards.Heads = drawnIDs(draw, s.Shards.Heads, l)
		case 5:
			s.Shards.Version += draw.Intn(5) - 2
		case 6:
			if len(p.Ops) > 0 {
				p.Ops[draw.Intn(len(p.Ops))] = faults[draw.Intn(len(faults))].o
			}
		}
	}
	return s
}

// drawnIDs are ids with one of a list more, one less, one other one, or in another order.
func drawnIDs(draw *rand.Rand, ids []api.ID, l []node) []api.ID {
	ids = slices.Clone(ids)
	if len(ids) == 0 || draw.Intn(6) == 0 {
		return append(ids, l[draw.Intn(len(l))].id)
	}
	i, j := draw.Intn(len(ids)), draw.Intn(len(ids))
	switch draw.Intn(4) {
	case 0:
		return slices.Delete(ids, i, i+1)
	case 1:
		ids[i] = l[draw.Intn(len(l))].id
		return ids
	case 2:
		ids[i], ids[j] = ids[j], ids[i]
		return ids
	}
	return mixed(draw, ids)
}

// P12.1 to P12.3 and R7: for stores, operations and lists of any kind each function returns what the model does.
func TestLikeModel(t *testing.T) {
	draw := rand.New(rand.NewSource(123))
	verdicts, errors := map[uint8]int{}, map[api.Errno]int{}
	valid := 0
	for range 900 {
		l := scattered(draw, draw.Intn(12)+1)
		faults := faultyOps(l[draw.Intn(len(l))].o)
		s := drawnStore(draw, l, faults)
		m, ok := modelOf(s)
		if !ok {
			checkRefused(t, "drawn", s)
			continue
		}
		valid++
		likeModel(t, s, m, l)
		for _, o := range []api.Op{l[draw.Intn(len(l))].o, l[draw.Intn(len(l))].o, faults[draw.Intn(len(faults))].o, made(1000).o} {
			v, e := likeOffer(t, s, o)
			verdicts[v]++
			errors[e]++
		}
	}
	if valid < 200 || valid > 750 {
		t.Errorf("%d of the drawn stores are valid", valid)
	}
	for _, v := range []uint8{api.Committed, api.Duplicate, api.Waiting, api.StoreFull} {
		if verdicts[v] < 40 {
			t.Errorf("the verdict %d was found only %d times", v, verdicts[v])
		}
	}
	for _, e := range []api.Errno{api.OK, api.ErrMany, api.ErrBad, api.ErrFalse, api.ErrOrder} {
		if errors[e] < 20 {
			t.Errorf("%v was found only %d times", e, errors[e])
		}
	}
}

// likeModel looks at the functions that only tell something of a store.
func likeModel(t *testing.T, s api.Store, m model, l []node) {
	t.Helper()
	checkStore(t, "drawn", s, api.OK)
	for _, id := range append(idsOf(l), otherIDs(l[0].id)...) {
		_, has := m.ops[id]
		checkHas(t, s, id, has, api.OK)
	}
	checkGraph(t, s, graphOf(m.nodes()), api.OK)
	for version := -2; version <= maxStore+2; version++ {
		if version < 0 || version > len(m.order) {
			checkSince(t, s, version, nil, api.ErrArg)
		} else {
			checkSince(t, s, version, m.order[version:], api.OK)
		}
	}
}

func likeOffer(t *testing.T, s api.Store, o api.Op) (uint8, api.Errno) {
	t.Helper()
	m, _ := modelOf(s)
	if e := op.Verify(o); e != api.OK {
		checkOffer(t, "drawn", s, o, api.Store{}, 0, e)
		checkMissing(t, "drawn", s, o, nil, e)
		return 0, e
	}
	checkMissing(t, "drawn", s, o, m.missing(o), api.OK)
	v := m.offer(named(o))
	checkOffer(t, "drawn", s, o, m.store(), v, api.OK)
	return v, api.OK
}

// P12.3: runs of any operations, some of them faulty, are as the model's.
func TestRunLikeModel(t *testing.T) {
	draw := rand.New(rand.NewSource(124))
	refused := 0
	for range 120 {
		s, run := drawnCase(draw, 16)
		m, ok := modelOf(s)
		if !ok {
			t.Fatalf("a drawn store is not valid: %v", s)
		}
		ops := opsOf(run)
		var want []uint8
		for _, n := range run {
			want = append(want, m.offer(n))
		}
		checkRun(t, "drawn", s, ops, m.store(), want, api.OK)
		if len(ops) == 0 {
			continue
		}
		wrong := api.OK
		for i := len(ops) - 1; i >= 0; i-- {
			if draw.Intn(8) == 0 {
				f := faultyOps(ops[i])[draw.Intn(16)]
				ops[i], wrong = f.o, f.want
			}
		}
		if wrong != api.OK {
			refused++
			checkRun(t, "drawn", s, ops, api.Store{}, nil, wrong)
		}
	}
	if refused < 40 || refused > 110 {
		t.Errorf("%d runs were refused", refused)
	}
}

// P12.2: offers one after the other, of more than there is room for, as the model has them.
func TestOfferLikeModel(t *testing.T) {
	draw := rand.New(rand.NewSource(125))
	l := scattered(draw, maxStore+4)
	for n := 1; n <= maxShards; n++ {
		m := model{capacity: maxStore, n: n, ops: map[api.ID]api.Op{}}
		s := mustNew(t, maxStore, n)
		for range 5 {
			for _, i := range draw.Perm(len(l)) {
				next, v, e := store.Offer(s, l[i].o)
				if want := m.offer(l[i]); e != api.OK || v != want {
					t.Fatalf("Offer = %d, %v, want %d", v, e, want)
				}
				s = next
			}
			if !sameStore(s, m.store()) {
				t.Errorf("%d operations in %d shards are %v", len(m.ops), n, s)
			}
		}
	}
}
