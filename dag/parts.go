package dag

import (
	"slices"
	"strings"

	"braid/api"
	"braid/digest"
	"braid/op"
)

// verified returns the id of an operation that is signed, and otherwise the error of op.Verify.
func verified(o api.Op) (api.ID, api.Errno) {
	if e := op.Verify(o); e != api.OK {
		return api.ID{}, e
	}
	return op.ID(o)
}

// named reports whether a graph has as many ids as operations, and each of these is signed and has its id.
func named(g api.Graph) bool {
	if len(g.IDs) != len(g.Ops) {
		return false
	}
	for i, o := range g.Ops {
		id, e := verified(o)
		if e != api.OK || id != g.IDs[i] {
			return false
		}
	}
	return true
}

// place returns where an id is among increasing ones, or where it would be.
func place(ids []api.ID, id api.ID) (at int, found bool) {
	return slices.BinarySearchFunc(ids, id, digest.Cmp)
}

// hasAll reports whether increasing ids have all ids of a list.
func hasAll(ids, l []api.ID) bool {
	for _, id := range l {
		if _, found := place(ids, id); !found {
			return false
		}
	}
	return true
}

// inserted puts an operation into a graph that nobody else has, as it may change the memory of it.
func inserted(g api.Graph, at int, id api.ID, o api.Op) api.Graph {
	g.IDs = slices.Insert(g.IDs, at, id)
	g.Ops = slices.Insert(g.Ops, at, copied(o))
	return g
}

// merged returns the union of two valid graphs. It has no cycle and nothing is missing, as all ancestors of an operation are in the graph that it is from.
func merged(a, b api.Graph) (api.Graph, api.Errno) {
	g := copiedGraph(a)
	for i, id := range b.IDs {
		at, found := place(g.IDs, id)
		if found && !same(g.Ops[at], b.Ops[i]) {
			return api.Graph{}, api.ErrTwice
		}
		if !found {
			g = inserted(g, at, id, b.Ops[i])
		}
	}
	if len(g.Ops) > api.MaxList {
		return api.Graph{}, api.ErrMany
	}
	return g, api.OK
}

// same reports whether two operations are equal.
func same(a, b api.Op) bool {
	return a.Author == b.Author && slices.Equal(a.Preds, b.Preds) && a.Stamp == b.Stamp && a.Act == b.Act && a.Sig == b.Sig
}

// copied returns an operation that shares no memory with o; a part of a longer string would keep all of its memory.
func copied(o api.Op) api.Op {
	o.Preds = append([]api.ID(nil), o.Preds...)
	o.Act.Key = strings.Clone(o.Act.Key)
	o.Act.Value.Text = strings.Clone(o.Act.Value.Text)
	return o
}

// copiedGraph returns a graph that shares no memory with g.
func copiedGraph(g api.Graph) api.Graph {
	c := api.Graph{IDs: append([]api.ID(nil), g.IDs...)}
	for _, o := range g.Ops {
		c.Ops = append(c.Ops, copied(o))
	}
	return c
}
