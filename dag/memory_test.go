package dag_test

import (
	"slices"
	"strings"
	"testing"
	"unsafe"

	"braid/api"
	"braid/dag"
)

// memory is lists that stand in more memory than they show, and what was in it.
type memory struct {
	ids, idsBefore     []api.ID
	ops, opsBefore     []api.Op
	preds, predsBefore [][]api.ID
}

// extra are ids that stand behind the end of lists.
func extra() []api.ID {
	return []api.ID{{9, 1}, {9, 2}, {9, 3}}
}

// roomy returns a copy of a graph, whose lists have others between their lengths and their capacities, and all of its memory.
func roomy(g api.Graph) (api.Graph, *memory) {
	m := &memory{ids: slices.Concat(g.IDs, extra()), ops: slices.Concat(g.Ops, opsOf(alone(3)))}
	for i, o := range m.ops {
		all := slices.Concat(o.Preds, extra())
		m.ops[i].Preds = all[:len(o.Preds)]
		m.preds, m.predsBefore = append(m.preds, all), append(m.predsBefore, slices.Clone(all))
	}
	m.idsBefore, m.opsBefore = slices.Clone(m.ids), slices.Clone(m.ops)
	return api.Graph{IDs: m.ids[:len(g.IDs)], Ops: m.ops[:len(g.Ops)]}, m
}

// isUnchanged reports whether all memory is as it was, and each operation has the list that it had.
func (m *memory) isUnchanged() bool {
	for i, o := range m.ops {
		was := m.opsBefore[i]
		if !same(o, was) || len(o.Preds) != len(was.Preds) || unsafe.SliceData(o.Preds) != unsafe.SliceData(was.Preds) {
			return false
		}
		if !slices.Equal(m.preds[i], m.predsBefore[i]) {
			return false
		}
	}
	return slices.Equal(m.ids, m.idsBefore)
}

// spoil overwrites all memory.
func (m *memory) spoil() {
	for _, l := range m.preds {
		clear(l)
	}
	clear(m.ids)
	clear(m.ops)
}

// spoilGraph overwrites all memory of a result, up to the capacity of each list.
func spoilGraph(g api.Graph) {
	for _, o := range g.Ops {
		clear(o.Preds[:cap(o.Preds)])
	}
	clear(g.IDs[:cap(g.IDs)])
	clear(g.Ops[:cap(g.Ops)])
}

// isApart reports whether no two lists of predecessors of a graph share memory, and none with the ids; it overwrites them.
func isApart(g api.Graph) bool {
	ids := slices.Clone(g.IDs)
	for i, o := range g.Ops {
		all := o.Preds[:cap(o.Preds)]
		for j := range all {
			all[j] = api.ID{200, byte(i)}
		}
	}
	for i, o := range g.Ops {
		for _, id := range o.Preds[:cap(o.Preds)] {
			if id != (api.ID{200, byte(i)}) {
				return false
			}
		}
	}
	return slices.Equal(g.IDs, ids)
}

// calls are the calls of all functions with two graphs and two operations, one of which is in the first graph; each one returns a graph with what it has returned.
func calls(n, more node) map[string]func(a, b api.Graph) api.Graph {
	return map[string]func(a, b api.Graph) api.Graph{
		"Check": func(a, b api.Graph) api.Graph { dag.Check(a); return dag.New() },
		"Has":   func(a, b api.Graph) api.Graph { dag.Has(a, n.id); dag.Has(a, api.ID{}); return dag.New() },
		"Get": func(a, b api.Graph) api.Graph {
			o, _ := dag.Get(a, n.id)
			return api.Graph{Ops: []api.Op{o}}
		},
		"Add": func(a, b api.Graph) api.Graph {
			g, _, _ := dag.Add(a, more.o)
			return g
		},
		"Of": func(a, b api.Graph) api.Graph {
			g, _ := dag.Of(a.Ops)
			return g
		},
		"Union": func(a, b api.Graph) api.Graph {
			g, _ := dag.Union(a, b)
			return g
		},
		"the other Union": func(a, b api.Graph) api.Graph {
			g, _ := dag.Union(b, a)
			return g
		},
		"Union with itself": func(a, b api.Graph) api.Graph {
			g, _ := dag.Union(a, a)
			return g
		},
		"Equal": func(a, b api.Graph) api.Graph { dag.Equal(a, b); dag.Equal(b, a); return dag.New() },
	}
}

// R2: graphs stay as they were, with all memory up to each capacity; results stay as they were whatever becomes of arguments and of other results.
func TestMemory(t *testing.T) {
	for _, l := range smallShapes() {
		if len(l) == 0 {
			continue
		}
		more := made(100, l[max(0, len(l)-maxPreds):]...)
		for name, call := range calls(l[len(l)-1], more) {
			a, memA := roomy(graphOf(l))
			b, memB := roomy(graphOf(l[:len(l)/2]))
			one, two := call(a, b), call(a, b)
			want := api.Graph{IDs: slices.Clone(one.IDs), Ops: opsOf(nodesOfOps(one.Ops))}
			spoilGraph(two)
			if !memA.isUnchanged() || !memB.isUnchanged() {
				t.Errorf("%s of %d operations: an argument was changed", name, len(l))
			}
			memA.spoil()
			memB.spoil()
			if !sameGraph(one, want) {
				t.Errorf("%s of %d operations: the result was changed", name, len(l))
			}
			if !isApart(one) {
				t.Errorf("%s of %d operations: lists of the result share memory", name, len(l))
			}
		}
	}
}

// nodesOfOps are operations without their ids.
func nodesOfOps(l []api.Op) []node {
	var nodes []node
	for _, o := range l {
		nodes = append(nodes, node{o: o})
	}
	return nodes
}

// R2: graphs that are not valid, or that give an error otherwise, stay as they were too.
func TestRefusedMemory(t *testing.T) {
	l := wide(12, maxPreds)
	down := inOrder(l)
	unnamed := graphOf(l)
	unnamed.IDs = unnamed.IDs[:3]
	faulted := graphOf(l)
	faulted.Ops[5] = unsigned(faulted.Ops[5])
	for _, g := range []api.Graph{down, unnamed, faulted, graphOf(l[1:]), graphOf(alone(maxList + 1)), graphOf(alone(maxList)), graphOf(append(l, alone(30)[20:]...))} {
		for name, call := range calls(l[5], l[7]) {
			for _, other := range []api.Graph{graphOf(l), graphOf(alone(maxList))} {
				a, memA := roomy(g)
				b, memB := roomy(other)
				spoilGraph(call(a, b))
				spoilGraph(call(b, a))
				if !memA.isUnchanged() || !memB.isUnchanged() {
					t.Errorf("%s of %d operations: an argument was changed", name, len(g.Ops))
				}
			}
		}
	}
}

// R2: an operation that is added stays as it was, with the memory of its predecessors, and is not shared.
func TestAddMemory(t *testing.T) {
	for n := range maxPreds + 1 {
		l := alone(maxPreds)
		more := made(100, l[:n]...)
		all := slices.Concat(more.o.Preds, extra())
		before := slices.Clone(all)
		o := more.o
		o.Preds = all[:n]
		g, id, _ := dag.Add(graphOf(l), o)
		h, _, _ := dag.Add(graphOf(l), o)
		spoilGraph(h)
		if !slices.Equal(all, before) || id != more.id {
			t.Error("the operation was changed")
		}
		clear(all)
		checkGraph(t, g, append(l, more))
	}
}

// R2: lists of operations stay as they were, whatever their order is.
func TestOfMemory(t *testing.T) {
	for _, l := range smallShapes() {
		down := slices.Clone(l)
		slices.Reverse(down)
		for _, list := range [][]node{l, down, append(down, unsignedNode()), append(down, alone(20)[15]), slices.Concat(l, l)} {
			g, mem := roomy(inOrder(list))
			one, _ := dag.Of(g.Ops)
			two, _ := dag.Of(g.Ops)
			want := api.Graph{IDs: slices.Clone(one.IDs), Ops: opsOf(nodesOfOps(one.Ops))}
			spoilGraph(two)
			if !mem.isUnchanged() {
				t.Errorf("a list of %d operations was changed", len(list))
			}
			mem.spoil()
			if !sameGraph(one, want) {
				t.Errorf("the graph of %d operations was changed", len(list))
			}
		}
	}
}

func unsignedNode() node {
	return named(unsigned(made(900).o))
}

// R2: where lists of arguments share memory, those of results do not: all operations behind the same one have one list here, and it is the list of ids as well.
func TestSharedArguments(t *testing.T) {
	l := []node{made(0)}
	shared := idsOf(l)
	for i := range 8 {
		n := made(i+1, l[0])
		n.o.Preds = shared
		l = append(l, n)
	}
	share := func() api.Graph {
		g := graphOf(l)
		at := slices.Index(g.IDs, l[0].id)
		for i := range g.Ops {
			if len(g.Ops[i].Preds) > 0 {
				g.Ops[i].Preds = g.IDs[at : at+1]
			}
		}
		return g
	}
	more := made(100, l[0])
	for name, call := range calls(l[3], more) {
		g := share()
		one, two := call(g, g), call(g, g)
		want := api.Graph{IDs: slices.Clone(one.IDs), Ops: opsOf(nodesOfOps(one.Ops))}
		spoilGraph(two)
		if !sameGraph(g, graphOf(l)) || !sameGraph(one, want) {
			t.Errorf("%s: an argument, or a result, was changed", name)
		}
		if !isApart(one) {
			t.Errorf("%s: lists of the result share memory", name)
		}
	}
}

// R2: strings are not shared either, as they may be parts of longer ones.
func TestStrings(t *testing.T) {
	long := strings.Repeat("abc", 1000)
	first := signed(2, api.Op{Act: set(long[5:20], text(long[7:30]))})
	more := signed(3, api.Op{Act: set(long[6:20], text(long[8:30]))})
	g := api.Graph{IDs: idsOf([]node{first}), Ops: []api.Op{first.o}}
	h := api.Graph{IDs: idsOf([]node{more}), Ops: []api.Op{more.o}}
	var results []api.Op
	o, _ := dag.Get(g, first.id)
	sum, _, _ := dag.Add(g, more.o)
	list, _ := dag.Of([]api.Op{first.o, more.o})
	union, _ := dag.Union(g, h)
	results = slices.Concat(append(results, o), sum.Ops, list.Ops, union.Ops)
	if len(results) != 7 {
		t.Fatalf("there are %d operations", len(results))
	}
	for i, got := range results {
		for _, given := range []api.Op{first.o, more.o} {
			if unsafe.StringData(got.Act.Key) == unsafe.StringData(given.Act.Key) {
				t.Errorf("%d: the key shares memory with that of an argument", i)
			}
			if unsafe.StringData(got.Act.Value.Text) == unsafe.StringData(given.Act.Value.Text) {
				t.Errorf("%d: the text shares memory with that of an argument", i)
			}
		}
	}
}
