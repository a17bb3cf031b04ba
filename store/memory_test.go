package store_test

import (
	"slices"
	"strings"
	"testing"
	"unsafe"

	"braid/api"
	"braid/store"
)

// memory is lists that stand in more memory than they show, and what was in it.
type memory struct {
	ids, idsBefore     [][]api.ID
	ops, opsBefore     [][]api.Op
	parts, partsBefore []api.Graph
}

// extra are ids that stand behind the end of lists, in falling order.
func extra() []api.ID {
	return []api.ID{{9, 3}, {9, 2}, {9, 1}}
}

// roomyIDs returns a copy of ids that has others between its length and its capacity.
func (m *memory) roomyIDs(ids []api.ID) []api.ID {
	all := slices.Concat(ids, extra())
	m.ids, m.idsBefore = append(m.ids, all), append(m.idsBefore, slices.Clone(all))
	return all[:len(ids)]
}

func (m *memory) roomyOp(o api.Op) api.Op {
	o.Preds = m.roomyIDs(o.Preds)
	return o
}

func (m *memory) roomyOps(l []api.Op) []api.Op {
	all := slices.Concat(l, opsOf(alone(3)))
	for i, o := range all {
		all[i] = m.roomyOp(o)
	}
	m.ops, m.opsBefore = append(m.ops, all), append(m.opsBefore, slices.Clone(all))
	return all[:len(l)]
}

// roomy returns a copy of a store, whose lists have others between their lengths and their capacities, and all of its memory.
func roomy(s api.Store) (api.Store, *memory) {
	m := &memory{}
	parts := slices.Concat(s.Shards.Parts, slices.Repeat([]api.Graph{graphOf(diamond())}, 2))
	for i, p := range parts {
		parts[i] = api.Graph{IDs: m.roomyIDs(p.IDs), Ops: m.roomyOps(p.Ops)}
	}
	m.parts, m.partsBefore = parts, slices.Clone(parts)
	index := api.Shards{Parts: parts[:len(s.Shards.Parts)], Heads: m.roomyIDs(s.Shards.Heads), Version: s.Shards.Version}
	return api.Store{Cap: s.Cap, Shards: index, Order: m.roomyIDs(s.Order)}, m
}

func sameList[E any](a, b []E) bool {
	return len(a) == len(b) && cap(a) == cap(b) && unsafe.SliceData(a) == unsafe.SliceData(b)
}

// isUnchanged reports whether all memory is as it was, and each list is the one that it was.
func (m *memory) isUnchanged() bool {
	sameOp := func(a, b api.Op) bool { return same(a, b) && sameList(a.Preds, b.Preds) }
	for i, l := range m.ops {
		if !slices.EqualFunc(l, m.opsBefore[i], sameOp) {
			return false
		}
	}
	for i, l := range m.ids {
		if !slices.Equal(l, m.idsBefore[i]) {
			return false
		}
	}
	return slices.EqualFunc(m.parts, m.partsBefore, func(a, b api.Graph) bool { return sameList(a.IDs, b.IDs) && sameList(a.Ops, b.Ops) })
}

// spoil overwrites all memory.
func (m *memory) spoil() {
	for _, l := range m.ids {
		clear(l)
	}
	for _, l := range m.ops {
		clear(l)
	}
	clear(m.parts)
}

// idLists are all lists of ids of a store, up to the capacity of each one.
func idLists(s api.Store) [][]api.ID {
	l := [][]api.ID{s.Order[:cap(s.Order)], s.Shards.Heads[:cap(s.Shards.Heads)]}
	for _, p := range s.Shards.Parts[:cap(s.Shards.Parts)] {
		l = append(l, p.IDs[:cap(p.IDs)])
		for _, o := range p.Ops[:cap(p.Ops)] {
			l = append(l, o.Preds[:cap(o.Preds)])
		}
	}
	return l
}

// spoilStore overwrites all memory of a result, up to the capacity of each list.
func spoilStore(s api.Store) {
	for _, l := range idLists(s) {
		clear(l)
	}
	parts := s.Shards.Parts[:cap(s.Shards.Parts)]
	for _, p := range parts {
		clear(p.Ops[:cap(p.Ops)])
	}
	clear(parts)
}

// isApart reports whether no two lists of a store share memory; it overwrites them.
func isApart(s api.Store) bool {
	lists := idLists(s)
	for i, l := range lists {
		for j := range l {
			l[j] = api.ID{200, byte(i), byte(i >> 8)}
		}
	}
	for i, l := range lists {
		for _, id := range l {
			if id != (api.ID{200, byte(i), byte(i >> 8)}) {
				return false
			}
		}
	}
	for i, p := range s.Shards.Parts {
		for j := range p.Ops[:cap(p.Ops)] {
			p.Ops[:cap(p.Ops)][j].Stamp = uint64(1000 + i)
		}
	}
	for i, p := range s.Shards.Parts {
		if slices.ContainsFunc(p.Ops[:cap(p.Ops)], func(o api.Op) bool { return o.Stamp != uint64(1000+i) }) {
			return false
		}
	}
	return true
}

// copyStore is a store with what another one has.
func copyStore(s api.Store) api.Store {
	index := api.Shards{Heads: slices.Clone(s.Shards.Heads), Version: s.Shards.Version}
	for _, p := range s.Shards.Parts {
		g := api.Graph{IDs: slices.Clone(p.IDs)}
		for _, o := range p.Ops {
			g.Ops = append(g.Ops, copyOp(o))
		}
		index.Parts = append(index.Parts, g)
	}
	return api.Store{Cap: s.Cap, Shards: index, Order: slices.Clone(s.Order)}
}

// call is a call with a store and a list of operations that is not empty; it returns a store with what the call has returned.
type call func(s api.Store, l []api.Op) api.Store

// calls are the calls of all functions.
func calls() map[string]call {
	return map[string]call{
		"Check": func(s api.Store, l []api.Op) api.Store { store.Check(s); return api.Store{} },
		"Has": func(s api.Store, l []api.Op) api.Store {
			store.Has(s, named(l[0]).id)
			return api.Store{}
		},
		"Missing": func(s api.Store, l []api.Op) api.Store {
			lost, _ := store.Missing(s, l[0])
			return api.Store{Order: lost}
		},
		"Offer": func(s api.Store, l []api.Op) api.Store {
			next, _, _ := store.Offer(s, l[0])
			return next
		},
		"Run": func(s api.Store, l []api.Op) api.Store {
			next, verdicts, _ := store.Run(s, l)
			for _, v := range verdicts[:cap(verdicts)] {
				next.Order = append(next.Order, api.ID{v})
			}
			clear(verdicts[:cap(verdicts)])
			return next
		},
		"Graph": func(s api.Store, l []api.Op) api.Store {
			g, _ := store.Graph(s)
			return api.Store{Shards: api.Shards{Parts: []api.Graph{g}}}
		},
		"Since": func(s api.Store, l []api.Op) api.Store {
			some, _ := store.Since(s, len(s.Order)/2)
			return api.Store{Order: some}
		},
	}
}

// R2: arguments stay as they were, with all memory up to each capacity; results stay as they were whatever becomes of arguments and of other results. The operations are offered where they are there already, where they wait, where there is no room, and where they are committed.
func TestMemory(t *testing.T) {
	for i, l := range smallShapes() {
		n := i%maxShards + 1
		more := made(100, l[max(0, len(l)-maxPreds):]...)
		behind := made(101, more, made(102))
		for _, kept := range []api.Store{storeOf(l, max(1, len(l)), n), storeOf(l, len(l)+3, n)} {
			for _, run := range [][]node{l[:min(1, len(l))], {behind}, {more}, {behind, more, made(103), more, made(102), behind}} {
				for name, call := range calls() {
					if len(run) > 0 {
						checkMemory(t, name, call, kept, opsOf(run))
					}
				}
			}
		}
	}
}

func checkMemory(t *testing.T, name string, call call, kept api.Store, l []api.Op) {
	t.Helper()
	s, mem := roomy(kept)
	ops := mem.roomyOps(l)
	one, two := call(s, ops), call(s, ops)
	want := copyStore(one)
	spoilStore(two)
	if !mem.isUnchanged() {
		t.Errorf("%s of %d operations: an argument was changed", name, len(kept.Order))
	}
	mem.spoil()
	if !sameStore(one, want) {
		t.Errorf("%s of %d operations: the result was changed", name, len(kept.Order))
	}
	if !isApart(one) {
		t.Errorf("%s of %d operations: lists of the result share memory", name, len(kept.Order))
	}
}

// R2: stores that are not valid, and operations that are refused, stay as they were too.
func TestRefusedMemory(t *testing.T) {
	l := wide(12, maxPreds)
	bad := []api.Store{storeOf(l, 11, 1), storeOf(l, maxStore+1, 2), storeOf(l, 12, maxShards+1), storeOf(alone(maxStore+1), maxStore, 3), storeOf(l[1:], 12, 3)}
	for n := 1; n <= maxShards; n++ {
		down, unordered, less, late := storeOf(l, 12, n), storeOf(l, 12, n), storeOf(l, 12, n), storeOf(l, 12, n)
		slices.Reverse(down.Shards.Parts[0].IDs)
		slices.Reverse(unordered.Order)
		less.Order = less.Order[:11]
		late.Shards.Version++
		bad = append(bad, down, unordered, less, late, storeOf(l, 12, n))
	}
	for _, kept := range bad {
		for _, run := range [][]api.Op{{unsigned(l[5].o), l[3].o}, append([]api.Op{unsigned(made(1, made(0)).o)}, opsOf(alone(maxList))...)} {
			for name, call := range calls() {
				s, mem := roomy(kept)
				spoilStore(call(s, mem.roomyOps(run)))
				if !mem.isUnchanged() {
					t.Errorf("%s of %d operations: an argument was changed", name, len(kept.Order))
				}
			}
		}
	}
}

// R2: where lists of arguments share memory, those of results do not: all operations behind the same one have one list here, which is a part of the order, and the order and the heads of the store are one memory as well.
func TestSharedArguments(t *testing.T) {
	l := fork(8)
	more, lost := made(60, l[0]), made(61, l[0], made(62))
	for n := 1; n <= maxShards; n++ {
		for name, call := range calls() {
			s := storeOf(l, 20, n)
			all := slices.Concat(s.Order, s.Shards.Heads)
			s.Order, s.Shards.Heads = all[:len(l)], all[len(l):]
			for _, p := range s.Shards.Parts {
				for i, o := range p.Ops {
					if len(o.Preds) > 0 {
						p.Ops[i].Preds = s.Order[:1]
					}
				}
			}
			ops := opsOf([]node{more, lost, more})
			ops[0].Preds, ops[2].Preds = s.Order[:1], s.Order[:1]
			one, two := call(s, ops), call(s, ops)
			want := copyStore(one)
			spoilStore(two)
			if !sameStore(s, storeOf(l, 20, n)) || !same(ops[0], more.o) || !same(ops[1], lost.o) || !sameStore(one, want) {
				t.Errorf("%s: an argument, or a result, was changed", name)
			}
			if !isApart(one) {
				t.Errorf("%s: lists of the result share memory", name)
			}
		}
	}
}

// R2: a store to which is offered again and again keeps none of the memory of the stores before.
func TestOfferMemory(t *testing.T) {
	l := wide(16, 2)
	for n := 1; n <= maxShards; n++ {
		s := mustNew(t, 16, n)
		var before []api.Store
		for i, m := range l {
			before = append(before, s)
			s = mustOffer(t, s, m, api.Committed)
			if i%3 == 0 {
				before = append(before, s)
				s = mustOffer(t, s, m, api.Duplicate)
			}
		}
		for _, b := range before {
			if !sameStore(b, storeOf(l[:len(b.Order)], 16, n)) {
				t.Errorf("the store of %d operations was changed", len(b.Order))
			}
			spoilStore(b)
		}
		if !sameStore(s, storeOf(l, 16, n)) {
			t.Errorf("the store of %d operations was changed", len(l))
		}
	}
}

// R2: strings are not shared either, as they may be parts of longer ones.
func TestStrings(t *testing.T) {
	long := strings.Repeat("abc", 1000)
	first := signed(2, api.Op{Act: set(long[5:20], text(long[7:30]))})
	more := signed(3, api.Op{Act: set(long[6:20], text(long[8:30]))})
	for _, s := range stores([]node{first}) {
		g, _ := store.Graph(s)
		results := g.Ops
		for _, o := range []api.Op{first.o, more.o, made(1, made(2)).o} {
			next, _, _ := store.Offer(s, o)
			for _, p := range next.Shards.Parts {
				results = append(results, p.Ops...)
			}
		}
		if len(results) < 4 {
			t.Fatalf("there are %d operations", len(results))
		}
		for i, got := range results {
			for _, given := range []api.Op{first.o, more.o} {
				if unsafe.StringData(got.Act.Key) == unsafe.StringData(given.Act.Key) {
					t.Errorf("%d: the key shares memory with that of an argument", i)
				}
				if unsafe.StringData(got.Act.Value.Text) == unsafe.StringData(given.Act.Value.Text) {
					t.Errorf("%d: the text shares memory with that of an argument", i)
				}
			}
		}
	}
}
