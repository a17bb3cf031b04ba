package shard_test

import (
	"slices"
	"strings"
	"testing"
	"unsafe"

	"braid/api"
	"braid/shard"
)

// memory is lists that stand in more memory than they show, and what was in it.
type memory struct {
	ids, idsBefore     [][]api.ID
	ops, opsBefore     [][]api.Op
	parts, partsBefore []api.Graph
}

// extra are ids that stand behind the end of lists, in falling order.
func extra() []api.ID {
	return []api.ID{{9, 3}, {9, 2}, {9, 1}}
}

// roomyIDs returns a copy of ids that has others between its length and its capacity.
func (m *memory) roomyIDs(ids []api.ID) []api.ID {
	all := slices.Concat(ids, extra())
	m.ids, m.idsBefore = append(m.ids, all), append(m.idsBefore, slices.Clone(all))
	return all[:len(ids)]
}

func (m *memory) roomyOp(o api.Op) api.Op {
	o.Preds = m.roomyIDs(o.Preds)
	return o
}

func (m *memory) roomyOps(l []api.Op) []api.Op {
	all := slices.Concat(l, opsOf(alone(3)))
	for i, o := range all {
		all[i] = m.roomyOp(o)
	}
	m.ops, m.opsBefore = append(m.ops, all), append(m.opsBefore, slices.Clone(all))
	return all[:len(l)]
}

// roomy returns a copy of an index, whose lists have others between their lengths and their capacities, and all of its memory.
func roomy(s api.Shards) (api.Shards, *memory) {
	m := &memory{}
	parts := slices.Concat(s.Parts, slices.Repeat([]api.Graph{graphOf(diamond())}, 2))
	for i, p := range parts {
		parts[i] = api.Graph{IDs: m.roomyIDs(p.IDs), Ops: m.roomyOps(p.Ops)}
	}
	m.parts, m.partsBefore = parts, slices.Clone(parts)
	return api.Shards{Parts: parts[:len(s.Parts)], Heads: m.roomyIDs(s.Heads), Version: s.Version}, m
}

func sameList[E any](a, b []E) bool {
	return len(a) == len(b) && cap(a) == cap(b) && unsafe.SliceData(a) == unsafe.SliceData(b)
}

// isUnchanged reports whether all memory is as it was, and each list is the one that it was.
func (m *memory) isUnchanged() bool {
	sameOp := func(a, b api.Op) bool { return same(a, b) && sameList(a.Preds, b.Preds) }
	for i, l := range m.ops {
		if !slices.EqualFunc(l, m.opsBefore[i], sameOp) {
			return false
		}
	}
	for i, l := range m.ids {
		if !slices.Equal(l, m.idsBefore[i]) {
			return false
		}
	}
	return slices.EqualFunc(m.parts, m.partsBefore, func(a, b api.Graph) bool { return sameList(a.IDs, b.IDs) && sameList(a.Ops, b.Ops) })
}

// spoil overwrites all memory.
func (m *memory) spoil() {
	for _, l := range m.ids {
		clear(l)
	}
	for _, l := range m.ops {
		clear(l)
	}
	clear(m.parts)
}

// idLists are all lists of ids of an index, up to the capacity of each one.
func idLists(s api.Shards) [][]api.ID {
	l := [][]api.ID{s.Heads[:cap(s.Heads)]}
	for _, p := range s.Parts[:cap(s.Parts)] {
		l = append(l, p.IDs[:cap(p.IDs)])
		for _, o := range p.Ops[:cap(p.Ops)] {
			l = append(l, o.Preds[:cap(o.Preds)])
		}
	}
	return l
}

// spoilIndex overwrites all memory of a result, up to the capacity of each list.
func spoilIndex(s api.Shards) {
	for _, l := range idLists(s) {
		clear(l)
	}
	for _, p := range s.Parts[:cap(s.Parts)] {
		clear(p.Ops[:cap(p.Ops)])
	}
	clear(s.Parts[:cap(s.Parts)])
}

// isApart reports whether no two lists of an index share memory; it overwrites them.
func isApart(s api.Shards) bool {
	lists := idLists(s)
	for i, l := range lists {
		for j := range l {
			l[j] = api.ID{200, byte(i), byte(i >> 8)}
		}
	}
	for i, l := range lists {
		for _, id := range l {
			if id != (api.ID{200, byte(i), byte(i >> 8)}) {
				return false
			}
		}
	}
	for i, p := range s.Parts {
		for j := range p.Ops[:cap(p.Ops)] {
			p.Ops[:cap(p.Ops)][j].Stamp = uint64(1000 + i)
		}
	}
	for i, p := range s.Parts {
		if slices.ContainsFunc(p.Ops[:cap(p.Ops)], func(o api.Op) bool { return o.Stamp != uint64(1000+i) }) {
			return false
		}
	}
	return true
}

// copyIndex is an index with what another one has.
func copyIndex(s api.Shards) api.Shards {
	c := api.Shards{Heads: slices.Clone(s.Heads), Version: s.Version}
	for _, p := range s.Parts {
		g := api.Graph{IDs: slices.Clone(p.IDs)}
		for _, o := range p.Ops {
			g.Ops = append(g.Ops, copyOp(o))
		}
		c.Parts = append(c.Parts, g)
	}
	return c
}

// calls are the calls of all functions with an index, an operation and an id; each one returns an index with what it has returned.
func calls() map[string]func(s api.Shards, o api.Op, id api.ID) api.Shards {
	return map[string]func(s api.Shards, o api.Op, id api.ID) api.Shards{
		"Check": func(s api.Shards, o api.Op, id api.ID) api.Shards { shard.Check(s); return api.Shards{} },
		"Number": func(s api.Shards, o api.Op, id api.ID) api.Shards {
			n, _ := shard.Number(s, id)
			return api.Shards{Version: n}
		},
		"Has": func(s api.Shards, o api.Op, id api.ID) api.Shards { shard.Has(s, id); return api.Shards{} },
		"Get": func(s api.Shards, o api.Op, id api.ID) api.Shards {
			got, _ := shard.Get(s, id)
			return api.Shards{Parts: []api.Graph{{Ops: []api.Op{got}}}}
		},
		"Put": func(s api.Shards, o api.Op, id api.ID) api.Shards {
			next, _, _ := shard.Put(s, o)
			return next
		},
		"All": func(s api.Shards, o api.Op, id api.ID) api.Shards {
			g, _ := shard.All(s)
			return api.Shards{Parts: []api.Graph{g}}
		},
		"Heads": func(s api.Shards, o api.Op, id api.ID) api.Shards {
			heads, version, _ := shard.Heads(s)
			return api.Shards{Heads: heads, Version: version}
		},
	}
}

// R2: arguments stay as they were, with all memory up to each capacity; results stay as they were whatever becomes of arguments and of other results.
func TestMemory(t *testing.T) {
	for _, l := range smallShapes() {
		more := made(100, l[max(0, len(l)-maxPreds):]...)
		ids := append(idsOf(l), more.id)
		for _, index := range indices(l) {
			for _, id := range []api.ID{ids[0], ids[len(l)/2], ids[len(l)]} {
				for name, call := range calls() {
					s, mem := roomy(index)
					o := mem.roomyOp(more.o)
					one, two := call(s, o, id), call(s, o, id)
					want := copyIndex(one)
					spoilIndex(two)
					if !mem.isUnchanged() {
						t.Errorf("%s of %d operations: an argument was changed", name, len(l))
					}
					mem.spoil()
					if !sameIndex(one, want) {
						t.Errorf("%s of %d operations: the result was changed", name, len(l))
					}
					if !isApart(one) {
						t.Errorf("%s of %d operations: lists of the result share memory", name, len(l))
					}
				}
			}
		}
	}
}

// R2: indices that are not valid, and operations that are refused, stay as they were too.
func TestRefusedMemory(t *testing.T) {
	l := wide(12, maxPreds)
	var bad []api.Shards
	for _, s := range slices.Concat(indices(l[1:]), indices(alone(maxList+1)), indices(l), indices(alone(maxList)), []api.Shards{indexOf(l, maxShards+1)}) {
		down, faulted, headless, late, unnamed := copyIndex(s), copyIndex(s), copyIndex(s), copyIndex(s), copyIndex(s)
		slices.Reverse(down.Parts[0].IDs)
		slices.Reverse(down.Parts[0].Ops)
		faulted.Parts[0].Ops[0] = unsigned(faulted.Parts[0].Ops[0])
		slices.Reverse(headless.Heads)
		late.Version++
		unnamed.Parts[0].IDs = unnamed.Parts[0].IDs[1:]
		bad = append(bad, s, down, faulted, headless, late, unnamed)
	}
	for _, index := range bad {
		for _, given := range []api.Op{l[3].o, unsigned(l[5].o), made(700, made(701)).o, made(702).o} {
			for name, call := range calls() {
				s, mem := roomy(index)
				spoilIndex(call(s, mem.roomyOp(given), l[2].id))
				if !mem.isUnchanged() {
					t.Errorf("%s of %d operations: an argument was changed", name, index.Version)
				}
			}
		}
	}
}

// R2: where lists of arguments share memory, those of results do not: all operations behind the same one have one list here, which is a part of the ids of a part, and of Heads, as well.
func TestSharedArguments(t *testing.T) {
	l := fork(8)
	l = append(l, made(50, l[1:3]...))
	for n := 1; n <= maxShards; n++ {
		for name, call := range calls() {
			s := indexOf(l, n)
			home := s.Parts[int(l[0].id[0])%n]
			at := slices.Index(home.IDs, l[0].id)
			for _, p := range s.Parts {
				for i, o := range p.Ops {
					if len(o.Preds) == 1 {
						p.Ops[i].Preds = home.IDs[at : at+1]
					}
				}
			}
			more := made(60, l[3:5]...).o
			all := slices.Concat(s.Heads, more.Preds)
			s.Heads, more.Preds = all[:len(s.Heads)], all[len(s.Heads):]
			one, two := call(s, more, l[1].id), call(s, more, l[1].id)
			want := copyIndex(one)
			spoilIndex(two)
			if !sameIndex(s, indexOf(l, n)) || !same(more, made(60, l[3:5]...).o) || !sameIndex(one, want) {
				t.Errorf("%s: an argument, or a result, was changed", name)
			}
			if !isApart(one) {
				t.Errorf("%s: lists of the result share memory", name)
			}
		}
	}
}

// R2: an index whose part is put in again and again keeps none of the memory of the indices before.
func TestPutMemory(t *testing.T) {
	l := wide(16, 2)
	for n := 1; n <= maxShards; n++ {
		s := mustNew(t, n)
		var before []api.Shards
		for _, m := range l {
			before = append(before, s)
			s = mustPut(t, s, m)
		}
		for i, b := range before {
			if !sameIndex(b, indexOf(l[:i], n)) {
				t.Errorf("the index of %d operations was changed", i)
			}
			spoilIndex(b)
		}
		if !sameIndex(s, indexOf(l, n)) {
			t.Errorf("the index of %d operations was changed", len(l))
		}
	}
}

// R2: strings are not shared either, as they may be parts of longer ones.
func TestStrings(t *testing.T) {
	long := strings.Repeat("abc", 1000)
	first := signed(2, api.Op{Act: set(long[5:20], text(long[7:30]))})
	more := signed(3, api.Op{Act: set(long[6:20], text(long[8:30]))})
	for _, s := range indices([]node{first}) {
		got, _ := shard.Get(s, first.id)
		results := []api.Op{got}
		all, _ := shard.All(s)
		results = append(results, all.Ops...)
		next, _, _ := shard.Put(s, more.o)
		for _, p := range next.Parts {
			results = append(results, p.Ops...)
		}
		if len(results) != 4 {
			t.Fatalf("there are %d operations", len(results))
		}
		for i, got := range results {
			for _, given := range []api.Op{first.o, more.o} {
				if unsafe.StringData(got.Act.Key) == unsafe.StringData(given.Act.Key) {
					t.Errorf("%d: the key shares memory with that of an argument", i)
				}
				if unsafe.StringData(got.Act.Value.Text) == unsafe.StringData(given.Act.Value.Text) {
					t.Errorf("%d: the text shares memory with that of an argument", i)
				}
			}
		}
	}
}
