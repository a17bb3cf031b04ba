package store

import (
	"iter"
	"slices"
	"strings"

	"braid/api"
	"braid/op"
	"braid/shard"
)

// allowed reports whether a store may have a capacity.
func allowed(capacity int) bool {
	return capacity >= 1 && capacity <= api.MaxStore
}

// opened returns the graph of the index of a store, which shares no memory with this, or ErrBad if the store is not valid.
func opened(s api.Store) (api.Graph, api.Errno) {
	if !allowed(s.Cap) || s.Shards.Version > s.Cap {
		return api.Graph{}, api.ErrBad
	}
	g, e := shard.All(s.Shards)
	if e != api.OK || !fits(s.Order, g) {
		return api.Graph{}, api.ErrBad
	}
	return g, api.OK
}

// fits reports whether an order has each id of a valid graph once, behind the predecessors of its operation.
func fits(order []api.ID, g api.Graph) bool {
	if len(order) != len(g.IDs) {
		return false
	}
	for i, id := range order {
		at, before := slices.Index(g.IDs, id), order[:i]
		if at < 0 || slices.Contains(before, id) || len(lacked(before, g.Ops[at].Preds)) > 0 {
			return false
		}
	}
	return true
}

// lacked returns those of some ids that others do not have, in the order of the first.
func lacked(others, ids []api.ID) []api.ID {
	l := append([]api.ID(nil), ids...)
	return slices.DeleteFunc(l, func(id api.ID) bool { return slices.Contains(others, id) })
}

// missing returns the predecessors of an operation that a valid store does not have; its order has all that it has.
func missing(s api.Store, o api.Op) []api.ID {
	return lacked(s.Order, o.Preds)
}

// verdict returns the verdict on a signed operation with its id.
func verdict(s api.Store, o api.Op, id api.ID) uint8 {
	switch {
	case slices.Contains(s.Order, id):
		return api.Duplicate
	case len(missing(s, o)) > 0:
		return api.Waiting
	case s.Shards.Version == s.Cap:
		return api.StoreFull
	}
	return api.Committed
}

// offers goes through operations, each of which is offered to a valid store, and gives the verdict, or op.Verify's error.
func offers(s *api.Store, l []api.Op) iter.Seq2[uint8, api.Errno] {
	return func(yield func(uint8, api.Errno) bool) {
		for _, o := range l {
			next, v, e := offered(*s, o)
			if !yield(v, e) {
				return
			}
			*s = next
		}
	}
}

// offered returns the store after an operation was offered, and the verdict, or op.Verify's error. What did not change shares memory with s.
func offered(s api.Store, o api.Op) (api.Store, uint8, api.Errno) {
	if e := op.Verify(o); e != api.OK {
		return api.Store{}, 0, e
	}
	id, e := op.ID(o)
	if e != api.OK {
		return api.Store{}, 0, e
	}
	if v := verdict(s, o, id); v != api.Committed {
		return s, v, api.OK
	}
	index, id, e := shard.Put(s.Shards, o)
	if e != api.OK {
		return api.Store{}, 0, e
	}
	// Without room behind the order, append takes new memory and leaves that of s as it is.
	end := len(s.Order)
	return api.Store{Cap: s.Cap, Shards: index, Order: append(s.Order[:end:end], id)}, api.Committed, api.OK
}

// copied returns a store that shares no memory with s.
func copied(s api.Store) api.Store {
	next := api.Store{Cap: s.Cap, Shards: api.Shards{Version: s.Shards.Version}}
	for _, p := range s.Shards.Parts {
		next.Shards.Parts = append(next.Shards.Parts, copiedGraph(p))
	}
	next.Shards.Heads = append(next.Shards.Heads, s.Shards.Heads...)
	next.Order = append(next.Order, s.Order...)
	return next
}

func copiedGraph(g api.Graph) api.Graph {
	next := api.Graph{IDs: append([]api.ID(nil), g.IDs...)}
	for _, o := range g.Ops {
		next.Ops = append(next.Ops, copiedOp(o))
	}
	return next
}

// copiedOp clones strings too, as a part of a longer string would keep all of its memory.
func copiedOp(o api.Op) api.Op {
	o.Preds = append([]api.ID(nil), o.Preds...)
	o.Act.Key = strings.Clone(o.Act.Key)
	o.Act.Value.Text = strings.Clone(o.Act.Value.Text)
	return o
}
