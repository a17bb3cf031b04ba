package ancestry

import (
	"slices"

	"braid/api"
	"braid/dag"
)

// byID returns the operations of a graph by their ids, or dag.Check's error.
func byID(g api.Graph) (map[api.ID]api.Op, api.Errno) {
	if e := dag.Check(g); e != api.OK {
		return nil, e
	}
	ops := map[api.ID]api.Op{}
	for i, id := range g.IDs {
		ops[id] = g.Ops[i]
	}
	return ops, api.OK
}

// having returns the operations of a graph by their ids, or ErrNone unless it has all of some ids.
func having(g api.Graph, ids ...api.ID) (map[api.ID]api.Op, api.Errno) {
	ops, e := byID(g)
	if e == api.OK && !hasAll(ops, ids...) {
		return nil, api.ErrNone
	}
	return ops, e
}

// hasAll reports whether there is an operation with each of some ids.
func hasAll(ops map[api.ID]api.Op, ids ...api.ID) bool {
	for _, id := range ids {
		if _, found := ops[id]; !found {
			return false
		}
	}
	return true
}

// chosen returns a new list of those of some ids that are wanted, in their order.
func chosen(ids []api.ID, wanted func(api.ID) bool) []api.ID {
	var l []api.ID
	for _, id := range ids {
		if wanted(id) {
			l = append(l, id)
		}
	}
	return l
}

// closed returns the ids of a list and those of all ancestors of their operations.
func closed(ops map[api.ID]api.Op, l []api.ID) map[api.ID]bool {
	in := map[api.ID]bool{}
	var put func(id api.ID)
	put = func(id api.ID) {
		// An operation can be met on very many ways: what is before it is put in only once.
		if in[id] {
			return
		}
		in[id] = true
		for _, p := range ops[id].Preds {
			put(p)
		}
	}
	for _, id := range l {
		put(id)
	}
	return in
}

// ordered returns the ids of a graph in the canonical order. They are given in increasing order, so the first one that can be taken is the least; and there always is one, as a graph has no cycle.
func ordered(ids []api.ID, ops map[api.ID]api.Op) []api.ID {
	var l []api.ID
	taken := map[api.ID]bool{}
	notTaken := func(id api.ID) bool { return !taken[id] }
	ready := func(id api.ID) bool { return !slices.ContainsFunc(ops[id].Preds, notTaken) }
	left := slices.Clone(ids)
	for range len(ids) {
		at := slices.IndexFunc(left, ready)
		l = append(l, left[at])
		taken[left[at]] = true
		left = slices.Delete(left, at, at+1)
	}
	return l
}

// depths returns the depth of each operation, worked out behind those of its predecessors.
func depths(ids []api.ID, ops map[api.ID]api.Op) map[api.ID]int {
	depth := map[api.ID]int{}
	for _, id := range ordered(ids, ops) {
		for _, p := range ops[id].Preds {
			depth[id] = max(depth[id], depth[p]+1)
		}
	}
	return depth
}
