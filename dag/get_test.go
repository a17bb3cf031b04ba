package dag_test

import (
	"slices"
	"testing"

	"braid/api"
	"braid/dag"
)

// P9.2: a graph has the ids of its operations, and gives each one by its id.
func TestHasAndGet(t *testing.T) {
	for _, l := range shapes() {
		g := graphOf(l)
		for _, n := range l {
			if has, e := dag.Has(g, n.id); e != api.OK || !has {
				t.Errorf("Has of one of %d = %v, %v", len(l), has, e)
			}
			if o, e := dag.Get(g, n.id); e != api.OK || !same(o, n.o) {
				t.Errorf("Get of one of %d = %v, %v, want %v", len(l), o, e, n.o)
			}
		}
	}
}

// P9.2: it has no others, before, between and behind its own, among them those of operations that it lacks; then Get returns ErrNone.
func TestHasNot(t *testing.T) {
	strangers := idsOf(wide(20, 3))
	for _, l := range shapes() {
		g := graphOf(l)
		own := idsOf(l)
		for _, id := range append(otherIDs(own[:min(len(own), 12)]...), strangers...) {
			if slices.Contains(own, id) {
				continue
			}
			if has, e := dag.Has(g, id); e != api.OK || has {
				t.Errorf("Has of %x = %v, %v", id, has, e)
			}
			if o, e := dag.Get(g, id); e != api.ErrNone || !same(o, api.Op{}) {
				t.Errorf("Get of %x = %v, %v", id, o, e)
			}
		}
	}
}

// P9.2 and R1: Check's error comes before ErrNone, and where the graph has the id.
func TestGetErrors(t *testing.T) {
	l := diamond()
	open := graphOf(l[1:])
	for _, n := range l {
		if has, e := dag.Has(open, n.id); e != api.ErrOpen || has {
			t.Errorf("Has = %v, %v", has, e)
		}
		if o, e := dag.Get(open, n.id); e != api.ErrOpen || !same(o, api.Op{}) {
			t.Errorf("Get = %v, %v", o, e)
		}
	}
	if o, e := dag.Get(dag.New(), l[0].id); e != api.ErrNone || !same(o, api.Op{}) {
		t.Errorf("Get of nothing = %v, %v", o, e)
	}
}
