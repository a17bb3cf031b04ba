package dag

import (
	"slices"
	"testing"

	"braid/api"
)

// These tests are about graphs that no operations are known for, as digests do not collide, or make cycles: their ids are numbers, and what checks the digests is left out.

// fake is an operation with a number as its id, behind some others.
type fake struct {
	id    byte
	preds []byte
}

func fakeIDs(l []byte) []api.ID {
	var ids []api.ID
	for _, n := range l {
		ids = append(ids, api.ID{n})
	}
	return ids
}

// fakeGraph has operations in the order in which they come.
func fakeGraph(l ...fake) api.Graph {
	var g api.Graph
	for _, f := range l {
		g.IDs = append(g.IDs, api.ID{f.id})
		g.Ops = append(g.Ops, api.Op{Preds: fakeIDs(f.preds)})
	}
	return g
}

// P9.1: ErrState if an operation is an ancestor of itself, by any number of steps, whatever else there is.
func TestCycles(t *testing.T) {
	for _, g := range []api.Graph{
		fakeGraph(fake{1, []byte{1}}),
		fakeGraph(fake{1, nil}, fake{2, []byte{1, 2}}),
		fakeGraph(fake{1, []byte{2}}, fake{2, []byte{1}}),
		fakeGraph(fake{1, []byte{3}}, fake{2, []byte{1}}, fake{3, []byte{2}}),
		fakeGraph(fake{1, []byte{2}}, fake{2, []byte{3}}, fake{3, []byte{1}}),
		// Behind others, before others, and beside them.
		fakeGraph(fake{1, nil}, fake{2, []byte{1, 3}}, fake{3, []byte{2}}, fake{4, nil}),
		fakeGraph(fake{1, []byte{2}}, fake{2, []byte{1}}, fake{3, []byte{1, 2}}, fake{4, []byte{3}}),
		fakeGraph(fake{1, nil}, fake{2, []byte{1}}, fake{3, []byte{3}}, fake{4, []byte{2}}),
		// By the last one of several predecessors.
		fakeGraph(fake{1, nil}, fake{2, nil}, fake{3, nil}, fake{4, []byte{1, 2, 3, 5}}, fake{5, []byte{4}}),
	} {
		if e := checkLinks(g); e != api.ErrState {
			t.Errorf("the links of %v have %v", g, e)
		}
	}
}

// P9.1: a cycle of each length up to MaxList, in either direction; without one of its links there is none.
func TestLongCycles(t *testing.T) {
	for n := 1; n <= api.MaxList; n++ {
		var up, down []fake
		for i := range n {
			up = append(up, fake{byte(i), []byte{byte((i + n - 1) % n)}})
			down = append(down, fake{byte(i), []byte{byte((i + 1) % n)}})
		}
		for _, l := range [][]fake{up, down} {
			if e := checkLinks(fakeGraph(l...)); e != api.ErrState {
				t.Errorf("the links of a cycle of %d have %v", n, e)
			}
			for i := range n {
				cut := slices.Clone(l)
				cut[i].preds = nil
				if e := checkLinks(fakeGraph(cut...)); e != api.OK {
					t.Errorf("the links of a cycle of %d, cut at %d, have %v", n, i, e)
				}
			}
		}
	}
}

// P9.1: no operation is its own ancestor where links meet again.
func TestNoCycles(t *testing.T) {
	for _, g := range []api.Graph{
		fakeGraph(),
		fakeGraph(fake{1, nil}, fake{2, nil}),
		fakeGraph(fake{1, []byte{2, 3}}, fake{2, []byte{4}}, fake{3, []byte{4}}, fake{4, nil}),
		fakeGraph(fake{1, nil}, fake{2, []byte{1}}, fake{3, []byte{1, 2}}, fake{4, []byte{1, 2, 3}}),
		fakeGraph(fake{1, []byte{3}}, fake{2, nil}, fake{3, []byte{2}}),
	} {
		if e := checkLinks(g); e != api.OK {
			t.Errorf("the links of %v have %v", g, e)
		}
	}
}

// P9.1 and R1: ErrOrder comes before ErrOpen, and this before ErrState.
func TestLinkErrors(t *testing.T) {
	open, cycle := fake{3, []byte{9}}, fake{4, []byte{4}}
	for _, c := range []struct {
		g    api.Graph
		want api.Errno
	}{
		{fakeGraph(open, cycle), api.ErrOpen},
		{fakeGraph(fake{1, []byte{2}}, fake{2, []byte{1}}, open), api.ErrOpen},
		{fakeGraph(cycle, fake{4, []byte{4}}), api.ErrOrder},
		{fakeGraph(cycle, open), api.ErrOrder},
		{fakeGraph(fake{5, nil}, fake{2, []byte{5}}), api.ErrOrder},
		{fakeGraph(fake{2, []byte{1}}, fake{1, []byte{2}}), api.ErrOrder},
	} {
		if e := checkLinks(c.g); e != c.want {
			t.Errorf("the links of %v have %v, want %v", c.g, e, c.want)
		}
	}
}

// others are operations that differ from o in one part each.
func others(o api.Op) []api.Op {
	l := slices.Repeat([]api.Op{o}, 10)
	l[0].Author++
	l[1].Preds = nil
	l[2].Preds = fakeIDs([]byte{1, 3})
	l[3].Stamp++
	l[4].Act.Kind++
	l[5].Act.Key += "a"
	l[6].Act.Value.Num++
	l[7].Act.Value.Text = "b"
	l[8].Sig.E++
	l[9].Sig.S++
	return l
}

// P9.4: Union returns ErrTwice if both graphs have the same id with different operations, also where there would be too many; Equal has to tell such operations apart.
func TestSameID(t *testing.T) {
	o := api.Op{Author: 4, Preds: fakeIDs([]byte{1, 2}), Stamp: 7, Act: api.Act{Kind: api.ActSet, Key: "x", Value: api.Value{Kind: 1}}, Sig: api.Sig{E: 5, S: 6}}
	a, full := fakeGraph(fake{1, nil}, fake{2, nil}, fake{3, nil}), fakeGraph()
	a.Ops[2] = o
	for i := range byte(api.MaxList) {
		full.IDs, full.Ops = append(full.IDs, api.ID{10 + i}), append(full.Ops, api.Op{})
	}
	full.IDs[0], full.IDs[1] = api.ID{2}, api.ID{3}
	for _, other := range append(others(o), api.Op{}) {
		b := fakeGraph(fake{2, nil}, fake{3, nil}, fake{4, nil})
		b.Ops[1], full.Ops[1] = other, other
		for _, pair := range [][2]api.Graph{{a, b}, {b, a}, {a, full}, {full, a}} {
			if g, e := merged(pair[0], pair[1]); e != api.ErrTwice || len(g.IDs)+len(g.Ops) > 0 {
				t.Errorf("the union of graphs with %v and %v is %v, %v", o, other, g, e)
			}
		}
		if same(o, other) || same(other, o) || !same(other, copied(other)) {
			t.Errorf("%v and %v are compared wrongly", o, other)
		}
	}
	full.Ops[1] = o
	if g, e := merged(a, full); e != api.ErrMany || len(g.IDs)+len(g.Ops) > 0 {
		t.Errorf("the union with one operation too many is %v, %v", g, e)
	}
	if g, e := merged(a, a); e != api.OK || !slices.Equal(g.IDs, a.IDs) || !slices.EqualFunc(g.Ops, a.Ops, same) {
		t.Errorf("the union of a graph with itself is %v, %v", g, e)
	}
}
