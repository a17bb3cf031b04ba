package ancestry_test

import (
	"slices"
	"strings"
	"testing"
	"unsafe"

	"braid/ancestry"
	"braid/api"
)

// memory is lists that stand in more memory than they show, and what was in it.
type memory struct {
	ids, idsBefore     []api.ID
	ops, opsBefore     []api.Op
	preds, predsBefore [][]api.ID
}

// extra are ids that stand behind the end of lists, in falling order.
func extra() []api.ID {
	return []api.ID{{9, 3}, {9, 2}, {9, 1}}
}

// roomy returns a copy of a graph, whose lists have others between their lengths and their capacities, and all of its memory.
func roomy(g api.Graph) (api.Graph, *memory) {
	m := &memory{ids: slices.Concat(g.IDs, extra()), ops: slices.Concat(g.Ops, opsOf(alone(3)))}
	for i, o := range m.ops {
		all := slices.Concat(o.Preds, extra())
		m.ops[i].Preds = all[:len(o.Preds)]
		m.preds, m.predsBefore = append(m.preds, all), append(m.predsBefore, slices.Clone(all))
	}
	m.idsBefore, m.opsBefore = slices.Clone(m.ids), slices.Clone(m.ops)
	return api.Graph{IDs: m.ids[:len(g.IDs)], Ops: m.ops[:len(g.Ops)]}, m
}

// isUnchanged reports whether all memory is as it was, and each operation has the list that it had.
func (m *memory) isUnchanged() bool {
	for i, o := range m.ops {
		was := m.opsBefore[i]
		if !same(o, was) || len(o.Preds) != len(was.Preds) || unsafe.SliceData(o.Preds) != unsafe.SliceData(was.Preds) {
			return false
		}
		if !slices.Equal(m.preds[i], m.predsBefore[i]) {
			return false
		}
	}
	return slices.Equal(m.ids, m.idsBefore)
}

// spoil overwrites all memory.
func (m *memory) spoil() {
	for _, l := range m.preds {
		clear(l)
	}
	clear(m.ids)
	clear(m.ops)
}

// spoilGraph overwrites all memory of a result, up to the capacity of each list.
func spoilGraph(g api.Graph) {
	for _, o := range g.Ops {
		clear(o.Preds[:cap(o.Preds)])
	}
	clear(g.IDs[:cap(g.IDs)])
	clear(g.Ops[:cap(g.Ops)])
}

// isApart reports whether no two lists of predecessors of a graph share memory, and none with the ids; it overwrites them.
func isApart(g api.Graph) bool {
	ids := slices.Clone(g.IDs)
	for i, o := range g.Ops {
		all := o.Preds[:cap(o.Preds)]
		for j := range all {
			all[j] = api.ID{200, byte(i)}
		}
	}
	for i, o := range g.Ops {
		for _, id := range o.Preds[:cap(o.Preds)] {
			if id != (api.ID{200, byte(i)}) {
				return false
			}
		}
	}
	return slices.Equal(g.IDs, ids)
}

// calls are the calls of all functions with a graph and a list of ids, each of which returns a graph with what it has returned.
func calls() map[string]func(g api.Graph, l []api.ID) api.Graph {
	return map[string]func(g api.Graph, l []api.ID) api.Graph{
		"Ancestors": func(g api.Graph, l []api.ID) api.Graph {
			ids, _ := ancestry.Ancestors(g, l[0])
			return api.Graph{IDs: ids}
		},
		"Is": func(g api.Graph, l []api.ID) api.Graph {
			ancestry.Is(g, l[0], l[len(l)-1])
			ancestry.Is(g, l[len(l)-1], l[0])
			return api.Graph{}
		},
		"Heads": func(g api.Graph, l []api.ID) api.Graph {
			ids, _ := ancestry.Heads(g)
			return api.Graph{IDs: ids}
		},
		"Missing": func(g api.Graph, l []api.ID) api.Graph {
			ids, _ := ancestry.Missing(g, l)
			return api.Graph{IDs: ids}
		},
		"Order": func(g api.Graph, l []api.ID) api.Graph {
			ids, _ := ancestry.Order(g)
			return api.Graph{IDs: ids}
		},
		"Depth": func(g api.Graph, l []api.ID) api.Graph {
			ancestry.Depth(g, l[0])
			return api.Graph{}
		},
		"Below": func(g api.Graph, l []api.ID) api.Graph {
			h, _ := ancestry.Below(g, l)
			return h
		},
	}
}

// lists are lists of ids of which some graph has some, all or none.
func lists(l []node) [][]api.ID {
	down := sorted(idsOf(l))
	slices.Reverse(down)
	return [][]api.ID{idsOf(l), down, slices.Repeat(down, 2), idsOf(l[len(l)-1:]), append(down, strangers(3)...), strangers(2), append(strangers(1), otherIDs()...), strangers(maxList + 1)}
}

// copyGraph is a graph with the ids and operations of another one, whether these are as many or not.
func copyGraph(g api.Graph) api.Graph {
	c := api.Graph{IDs: slices.Clone(g.IDs)}
	for _, o := range g.Ops {
		c.Ops = append(c.Ops, copyOp(o))
	}
	return c
}

// R2: arguments stay as they were, with all memory up to each capacity; results stay as they were whatever becomes of arguments and of other results.
func TestMemory(t *testing.T) {
	for _, l := range smallShapes() {
		if len(l) == 0 {
			continue
		}
		for _, ids := range lists(l) {
			for name, call := range calls() {
				g, mem := roomy(graphOf(l))
				all := slices.Concat(ids, extra())
				one, two := call(g, all[:len(ids)]), call(g, all[:len(ids)])
				want := copyGraph(one)
				spoilGraph(two)
				if !mem.isUnchanged() || !slices.Equal(all, slices.Concat(ids, extra())) {
					t.Errorf("%s of %d operations: an argument was changed", name, len(l))
				}
				mem.spoil()
				clear(all)
				if !sameGraph(one, want) {
					t.Errorf("%s of %d operations: the result was changed", name, len(l))
				}
				if !isApart(one) {
					t.Errorf("%s of %d operations: lists of the result share memory", name, len(l))
				}
			}
		}
	}
}

// R2: graphs that are not valid stay as they were too, and so do the lists.
func TestRefusedMemory(t *testing.T) {
	l := wide(12, maxPreds)
	unnamed := graphOf(l)
	unnamed.IDs = unnamed.IDs[:3]
	faulted := graphOf(l)
	faulted.Ops[5] = unsigned(faulted.Ops[5])
	for _, bad := range []api.Graph{inOrder(l), unnamed, faulted, graphOf(l[1:]), graphOf(alone(maxList + 1))} {
		for _, ids := range lists(l) {
			for name, call := range calls() {
				g, mem := roomy(bad)
				all := slices.Concat(ids, extra())
				spoilGraph(call(g, all[:len(ids)]))
				if !mem.isUnchanged() || !slices.Equal(all, slices.Concat(ids, extra())) {
					t.Errorf("%s of %d operations: an argument was changed", name, len(bad.Ops))
				}
			}
		}
	}
}

// R2: where lists of arguments share memory, those of results do not: all operations behind the same one have one list here, and it is a part of the list of ids as well, which is the list that is given.
func TestSharedArguments(t *testing.T) {
	l := fork(8)
	for name, call := range calls() {
		g := graphOf(l)
		at := slices.Index(g.IDs, l[0].id)
		for i := range g.Ops {
			if len(g.Ops[i].Preds) > 0 {
				g.Ops[i].Preds = g.IDs[at : at+1]
			}
		}
		one, two := call(g, g.IDs), call(g, g.IDs)
		want := copyGraph(one)
		spoilGraph(two)
		if !sameGraph(g, graphOf(l)) || !sameGraph(one, want) {
			t.Errorf("%s: an argument, or a result, was changed", name)
		}
		if !isApart(one) {
			t.Errorf("%s: lists of the result share memory", name)
		}
	}
}

// R2: strings are not shared either, as they may be parts of longer ones.
func TestStrings(t *testing.T) {
	long := strings.Repeat("abc", 1000)
	first := signed(2, api.Op{Act: set(long[5:20], text(long[7:30]))})
	more := signed(3, api.Op{Act: set(long[6:20], text(long[8:30]))}, first)
	g := graphOf([]node{first, more})
	below, e := ancestry.Below(g, []api.ID{more.id})
	if e != api.OK || len(below.Ops) != 2 {
		t.Fatalf("there are %d operations, %v", len(below.Ops), e)
	}
	for i, o := range below.Ops {
		given := g.Ops[i]
		if unsafe.StringData(o.Act.Key) == unsafe.StringData(given.Act.Key) {
			t.Errorf("%d: the key shares memory with that of an argument", i)
		}
		if unsafe.StringData(o.Act.Value.Text) == unsafe.StringData(given.Act.Value.Text) {
			t.Errorf("%d: the text shares memory with that of an argument", i)
		}
	}
}
