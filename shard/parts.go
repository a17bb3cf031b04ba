package shard

import (
	"slices"
	"strings"

	"braid/ancestry"
	"braid/api"
	"braid/digest"
)

// allowed reports whether an index may have n parts.
func allowed(n int) bool {
	return n >= 1 && n <= api.MaxShards
}

// number returns the number of an id for n parts.
func number(id api.ID, n int) int {
	return int(id[0]) % n
}

// partFor returns the part that has an id, if the index has it.
func partFor(s api.Shards, id api.ID) api.Graph {
	return s.Parts[number(id, len(s.Parts))]
}

// place returns where an id is among increasing ones, or where it would be.
func place(ids []api.ID, id api.ID) (at int, found bool) {
	return slices.BinarySearchFunc(ids, id, digest.Cmp)
}

// opened returns the graph of an index, or ErrBad if this is not valid. The lists of the graph are new ones, but its operations share memory with those of the index.
func opened(s api.Shards) (api.Graph, api.Errno) {
	if !allowed(len(s.Parts)) || !fits(s.Parts) {
		return api.Graph{}, api.ErrBad
	}
	for i, p := range s.Parts {
		if !inPlace(p.IDs, i, len(s.Parts)) {
			return api.Graph{}, api.ErrBad
		}
	}
	g := joined(s.Parts)
	// ancestry.Heads has an error unless the graph is valid.
	heads, e := ancestry.Heads(g)
	if e != api.OK || !slices.Equal(heads, s.Heads) || s.Version != len(g.Ops) {
		return api.Graph{}, api.ErrBad
	}
	return g, api.OK
}

// fits reports whether each part has as many ids as operations, and all together have no more than a graph may have.
func fits(parts []api.Graph) bool {
	left := api.MaxList
	for _, p := range parts {
		if len(p.IDs) != len(p.Ops) || len(p.Ops) > left {
			return false
		}
		left -= len(p.Ops)
	}
	return true
}

// inPlace reports whether ids increase strictly, and all have number i for n parts.
func inPlace(ids []api.ID, i, n int) bool {
	for at, id := range ids {
		if number(id, n) != i || at > 0 && digest.Cmp(ids[at-1], id) >= 0 {
			return false
		}
	}
	return true
}

// joined returns the operations of all parts together, in increasing order of their ids.
func joined(parts []api.Graph) api.Graph {
	var g api.Graph
	for _, p := range parts {
		for i, id := range p.IDs {
			at, _ := place(g.IDs, id)
			g.IDs = slices.Insert(g.IDs, at, id)
			g.Ops = slices.Insert(g.Ops, at, p.Ops[i])
		}
	}
	return g
}

// split returns n parts with the operations of a graph, which share memory with these.
func split(g api.Graph, n int) []api.Graph {
	parts := make([]api.Graph, n)
	for i, id := range g.IDs {
		p := &parts[number(id, n)]
		p.IDs = append(p.IDs, id)
		p.Ops = append(p.Ops, g.Ops[i])
	}
	return parts
}

// copied returns an operation that shares no memory with o; a part of a longer string would keep all of its memory.
func copied(o api.Op) api.Op {
	o.Preds = append([]api.ID(nil), o.Preds...)
	o.Act.Key = strings.Clone(o.Act.Key)
	o.Act.Value.Text = strings.Clone(o.Act.Value.Text)
	return o
}
