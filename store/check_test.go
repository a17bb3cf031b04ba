package store_test

import (
	"slices"
	"strconv"
	"testing"

	"braid/api"
)

// P12.1: stores of all shapes, with any number of shards, full ones and ones with room, are valid.
func TestCheck(t *testing.T) {
	for _, l := range shapes() {
		for _, s := range stores(l) {
			checkStore(t, strconv.Itoa(len(l))+" operations", s, api.OK)
		}
	}
}

// P12.1: any order in which each id is behind the predecessors of its operation is right.
func TestCheckAnyOrder(t *testing.T) {
	draw := newDraw()
	for _, l := range shapes() {
		for n := 1; n <= maxShards; n++ {
			s := storeOf(l, maxStore, n)
			s.Order = idsOf(anyOrder(draw, l))
			checkStore(t, "another order", s, api.OK)
		}
	}
}

// P12.1 and R3: it does not matter whether what is empty is nil.
func TestCheckEmpty(t *testing.T) {
	for n := 1; n <= maxShards; n++ {
		s := api.Store{Cap: 1, Shards: api.Shards{Heads: []api.ID{}}, Order: []api.ID{}}
		for range n {
			s.Shards.Parts = append(s.Shards.Parts, api.Graph{IDs: []api.ID{}, Ops: []api.Op{}})
		}
		checkStore(t, "not nil", s, api.OK)
		s.Order = nil
		checkStore(t, "nil", s, api.OK)
	}
}

// P12.1: ErrBad for a capacity that is not from 1 to MaxStore, with operations and without.
func TestCheckCap(t *testing.T) {
	for _, l := range [][]node{nil, alone(1), diamond(), alone(maxStore)} {
		for n := 1; n <= maxShards; n++ {
			for _, capacity := range outside(maxStore) {
				checkRefused(t, "capacity "+strconv.Itoa(capacity), storeOf(l, capacity, n))
			}
		}
	}
}

// P12.1: ErrBad where the version is above the capacity; a version that is the capacity is right.
func TestCheckVersion(t *testing.T) {
	for _, l := range [][]node{alone(1), alone(2), diamond(), chain(9), alone(maxStore - 1), wide(maxStore, maxPreds)} {
		for n := 1; n <= maxShards; n++ {
			for capacity := max(1, len(l)-3); capacity < len(l); capacity++ {
				checkRefused(t, "capacity "+strconv.Itoa(capacity), storeOf(l, capacity, n))
			}
			checkStore(t, "a full store", storeOf(l, len(l), n), api.OK)
		}
	}
	for _, l := range [][]node{alone(maxStore + 1), chain(maxStore + 1), alone(maxList)} {
		for n := 1; n <= maxShards; n++ {
			for _, capacity := range []int{1, maxStore, maxStore + 1, len(l), maxList} {
				checkRefused(t, "capacity "+strconv.Itoa(capacity), storeOf(l, capacity, n))
			}
		}
	}
}

// badIndices are indices made of that of some operations by one change, which are not valid.
func badIndices(l []node, n int) map[string]api.Shards {
	bad := map[string]api.Shards{}
	put := func(name string, change func(s *api.Shards)) {
		s := indexOf(l, n)
		change(&s)
		bad[name] = s
	}
	own := int(l[0].id[0]) % n
	at := slices.Index(indexOf(l, n).Parts[own].IDs, l[0].id)
	put("no parts", func(s *api.Shards) { s.Parts = nil })
	put("too many parts", func(s *api.Shards) { *s = indexOf(l, maxShards+1) })
	put("a late version", func(s *api.Shards) { s.Version++ })
	put("an early version", func(s *api.Shards) { s.Version-- })
	put("a negative version", func(s *api.Shards) { s.Version = -s.Version })
	put("no heads", func(s *api.Shards) { s.Heads = nil })
	put("a head twice", func(s *api.Shards) { s.Heads = append(s.Heads, s.Heads[len(s.Heads)-1]) })
	put("another head", func(s *api.Shards) { s.Heads[0][31] ^= 1 })
	put("no ids", func(s *api.Shards) { s.Parts[own].IDs = nil })
	put("no operations", func(s *api.Shards) { s.Parts[own].Ops = nil })
	put("another id", func(s *api.Shards) { s.Parts[own].IDs[at][31] ^= 1 })
	put("not signed", func(s *api.Shards) { s.Parts[own].Ops[at] = unsigned(s.Parts[own].Ops[at]) })
	put("a zero operation", func(s *api.Shards) { s.Parts[own].Ops[at] = api.Op{} })
	put("one twice", func(s *api.Shards) {
		s.Parts[own] = inOrder(slices.Insert(nodesOf(s.Parts[own]), at, l[0]))
		s.Version++
	})
	put("without the first one", func(s *api.Shards) { *s = indexOf(l[1:], n) })
	return bad
}

// P12.1: ErrBad where the index is not valid, also where the order and the capacity would fit.
func TestCheckIndex(t *testing.T) {
	for _, l := range [][]node{chain(2), diamond(), fork(6), wide(12, maxPreds)} {
		for n := 1; n <= maxShards; n++ {
			for name, bad := range badIndices(l, n) {
				s := api.Store{Cap: maxStore, Shards: bad, Order: idsOf(l)}
				checkRefused(t, name, s)
				s.Order = nil
				checkStore(t, name+", without an order", s, api.ErrBad)
				s.Order = idsOf(l[1:])
				checkStore(t, name+", without the first id", s, api.ErrBad)
			}
		}
	}
	checkRefused(t, "zero", api.Store{})
	checkRefused(t, "a capacity alone", api.Store{Cap: 1})
	checkRefused(t, "too many operations", storeOf(alone(maxList+1), maxStore, 2))
	checkRefused(t, "very many ids", api.Store{Cap: 1, Shards: api.Shards{Parts: []api.Graph{{IDs: make([]api.ID, 100000)}}}, Order: make([]api.ID, 100000)})
}

// P12.1: ErrBad where Order lacks an id, any one, or has an id more: one of the graph again, or another one.
func TestCheckOrderCount(t *testing.T) {
	for _, l := range [][]node{nil, alone(1), alone(3), chain(9), diamond(), alone(maxStore)} {
		for n := 1; n <= maxShards; n++ {
			for i := 0; i < len(l); i += max(1, len(l)/5) {
				s := storeOf(l, maxStore, n)
				s.Order = slices.Delete(idsOf(l), i, i+1)
				checkRefused(t, "an id less", s)
				s.Order = append(idsOf(l), l[i].id)
				checkRefused(t, "an id again", s)
				s.Order = slices.Insert(idsOf(l), i, l[i].id)
				checkRefused(t, "an id twice", s)
			}
			for _, id := range append(otherIDs(idsOf(l)[:min(1, len(l))]...), made(100).id) {
				s := storeOf(l, maxStore, n)
				s.Order = append(s.Order, id)
				checkRefused(t, "an id more", s)
				s.Order = slices.Insert(idsOf(l), 0, id)
				checkRefused(t, "an id more ahead", s)
			}
			s := storeOf(l, maxStore, n)
			s.Order = make([]api.ID, 100000)
			checkRefused(t, "a long order", s)
			if len(l) > 0 {
				s.Order = nil
				checkRefused(t, "no order", s)
			}
		}
	}
}

// P12.1: ErrBad where Order has as many ids as the graph, one of them twice, or one that the graph does not have.
func TestCheckOrderIDs(t *testing.T) {
	for _, l := range [][]node{alone(1), alone(3), chain(5), diamond(), fork(4), join(maxPreds), alone(maxStore)} {
		for n := 1; n <= maxShards; n++ {
			for i := 0; i < len(l); i += max(1, len(l)/6) {
				for j := range l {
					if j != i {
						s := storeOf(l, maxStore, n)
						s.Order[i] = l[j].id
						checkStore(t, "an id for another", s, api.ErrBad)
					}
				}
				for _, id := range append(otherIDs(l[i].id), made(100).id) {
					s := storeOf(l, maxStore, n)
					s.Order[i] = id
					checkRefused(t, "a strange id", s)
				}
			}
		}
	}
}

// P12.1: ErrBad where an id is ahead of a predecessor of its operation: of all orders of a few operations, those are right in which none is.
func TestCheckOrderAhead(t *testing.T) {
	for _, c := range []struct {
		name  string
		l     []node
		right int
	}{
		{"alone", alone(4), 24}, {"chain", chain(4), 1}, {"fork", fork(3), 6}, {"join", join(3), 6}, {"diamond", diamond(), 2},
		{"two chains", []node{made(0), made(1, made(0)), made(2), made(3, made(2))}, 6}, {"wide", wide(4, 3), 1},
	} {
		for n := 1; n <= maxShards; n++ {
			right := 0
			for _, order := range orders(c.l) {
				s := storeOf(c.l, maxStore, n)
				s.Order = idsOf(order)
				if isBehind(order) {
					right++
					checkStore(t, c.name, s, api.OK)
				} else {
					checkRefused(t, c.name, s)
				}
			}
			if right != c.right {
				t.Errorf("%d orders of a %s are right", right, c.name)
			}
		}
	}
}

// orders are all orders of operations.
func orders(l []node) [][]node {
	if len(l) == 0 {
		return [][]node{nil}
	}
	var all [][]node
	for i, n := range l {
		for _, rest := range orders(slices.Delete(slices.Clone(l), i, i+1)) {
			all = append(all, append([]node{n}, rest...))
		}
	}
	return all
}

// isBehind reports whether each operation is behind its predecessors.
func isBehind(l []node) bool {
	done := map[api.ID]bool{}
	for _, n := range l {
		for _, id := range n.o.Preds {
			if !done[id] {
				return false
			}
		}
		done[n.id] = true
	}
	return true
}

// P12.1: ErrBad where one of two neighbours is directly before the other and they are swapped, anywhere in a great store; other ones may be swapped.
func TestCheckOrderSwapped(t *testing.T) {
	right, wrong := 0, 0
	for _, l := range shapes() {
		for i := 0; i+1 < len(l); i += max(1, len(l)/10) {
			s := storeOf(l, maxStore, i%maxShards+1)
			s.Order[i], s.Order[i+1] = s.Order[i+1], s.Order[i]
			if slices.Contains(l[i+1].o.Preds, l[i].id) {
				wrong++
				checkRefused(t, "swapped", s)
			} else {
				right++
				checkStore(t, "swapped", s, api.OK)
			}
		}
	}
	if right < 50 || wrong < 50 {
		t.Errorf("%d are right, and %d are wrong", right, wrong)
	}
}

// P12.1: ErrBad where any one predecessor is behind its operation, first or last, in the same shard or in another one.
func TestCheckOrderPreds(t *testing.T) {
	l := join(maxPreds)
	last := l[maxPreds]
	for i := range maxPreds {
		order := append(slices.Delete(slices.Clone(l[:maxPreds]), i, i+1), last, l[i])
		for _, s := range stores(l) {
			s.Order = idsOf(order)
			checkRefused(t, "a predecessor behind", s)
		}
	}
	for first := range byte(maxShards) {
		for second := range byte(maxShards) {
			a := beginning(first)
			b := beginning(second, a)
			for _, s := range stores([]node{a, b}) {
				checkStore(t, "in order", s, api.OK)
				s.Order = idsOf([]node{b, a})
				checkRefused(t, "b ahead of a", s)
			}
		}
	}
}

// P12.1: a store has the ids of its operations, and no other ones; also where others have them.
func TestHas(t *testing.T) {
	for _, l := range shapes() {
		for _, s := range stores(l) {
			for i := 0; i < len(l); i += max(1, len(l)/4) {
				checkHas(t, s, l[i].id, true, api.OK)
			}
			for _, id := range append(otherIDs(), made(100, l[max(0, len(l)-1):]...).id) {
				checkHas(t, s, id, false, api.OK)
			}
		}
	}
	l := wide(12, 2)
	for i := range l {
		for _, s := range stores(l[:i]) {
			for j, n := range l {
				checkHas(t, s, n.id, j < i, api.OK)
			}
		}
	}
	for _, l := range [][]node{alone(1), chain(6), diamond()} {
		for _, s := range stores(l) {
			for _, id := range otherIDs(idsOf(l)...) {
				checkHas(t, s, id, false, api.OK)
			}
		}
	}
}

// P12.1: Graph returns the operations of all shards, in increasing order of their ids, whatever the order is in which they were committed.
func TestGraph(t *testing.T) {
	draw := newDraw()
	for _, l := range shapes() {
		for _, s := range stores(l) {
			checkGraph(t, s, graphOf(l), api.OK)
		}
		for _, s := range stores(anyOrder(draw, l)) {
			checkGraph(t, s, graphOf(l), api.OK)
		}
	}
}
