package dag_test

import (
	"slices"
	"strconv"
	"testing"

	"braid/api"
	"braid/dag"
	"braid/op"
)

// P9.1: the graph without operations.
func TestNew(t *testing.T) {
	if g := dag.New(); !isEmpty(g) {
		t.Errorf("New = %v", g)
	}
	for _, g := range []api.Graph{dag.New(), {}, {IDs: []api.ID{}, Ops: []api.Op{}}, {IDs: []api.ID{}}} {
		if e := dag.Check(g); e != api.OK {
			t.Errorf("Check(%v) = %v", g, e)
		}
	}
}

// P9.1: graphs of all shapes are valid.
func TestCheck(t *testing.T) {
	for _, l := range shapes() {
		if e := dag.Check(graphOf(l)); e != api.OK {
			t.Errorf("Check of %d operations = %v", len(l), e)
		}
	}
}

// The helpers have operations as the chapter means them: 0, 1 and MaxPreds predecessors, and ids that increase along a link, and that fall.
func TestShapes(t *testing.T) {
	var counts [maxPreds + 1]int
	up, down := 0, 0
	for _, l := range shapes() {
		for _, n := range l {
			counts[len(n.o.Preds)]++
			for _, p := range n.o.Preds {
				if compare(p, n.id) < 0 {
					up++
				} else {
					down++
				}
			}
		}
	}
	if slices.Min(counts[:]) < 20 || up < 100 || down < 100 {
		t.Errorf("there are %v operations with so many predecessors, %d and %d links", counts, up, down)
	}
}

// P9.1: ErrMany for more than MaxList operations, whatever else they are, and however many ids there are.
func TestCheckMany(t *testing.T) {
	for _, l := range [][]node{alone(maxList + 1), chain(maxList + 1), wide(100, maxPreds)} {
		checkRefused(t, "too many", graphOf(l), api.ErrMany)
		checkRefused(t, "too many in another order", inOrder(l), api.ErrMany)
		checkRefused(t, "too many and open", graphOf(append(l[2:], made(200), made(201))), api.ErrMany)
		checkRefused(t, "too many without ids", api.Graph{Ops: opsOf(l)}, api.ErrMany)
		checkRefused(t, "too many with MaxList ids", api.Graph{IDs: idsOf(l)[:maxList], Ops: opsOf(l)}, api.ErrMany)
		bad := graphOf(l)
		bad.Ops[0] = api.Op{}
		checkRefused(t, "too many and bad", bad, api.ErrMany)
	}
	for _, n := range []int{maxList + 1, 100, 100000} {
		checkRefused(t, "zero operations", api.Graph{IDs: make([]api.ID, n), Ops: make([]api.Op, n)}, api.ErrMany)
	}
}

// P9.1: ErrBad for fewer or more ids than operations; many ids alone are not ErrMany.
func TestCheckCounts(t *testing.T) {
	for _, l := range shapes() {
		g := graphOf(l)
		if len(l) > 0 {
			checkRefused(t, "no ids", api.Graph{Ops: g.Ops}, api.ErrBad)
			checkRefused(t, "no operations", api.Graph{IDs: g.IDs}, api.ErrBad)
			checkRefused(t, "an id less", api.Graph{IDs: g.IDs[:len(l)-1], Ops: g.Ops}, api.ErrBad)
			checkRefused(t, "not the first id", api.Graph{IDs: g.IDs[1:], Ops: g.Ops}, api.ErrBad)
			checkRefused(t, "an operation less", api.Graph{IDs: g.IDs, Ops: g.Ops[:len(l)-1]}, api.ErrBad)
		}
		for _, id := range otherIDs() {
			checkRefused(t, "an id more", api.Graph{IDs: append(slices.Clone(g.IDs), id), Ops: g.Ops}, api.ErrBad)
		}
	}
	for _, n := range []int{1, maxList, maxList + 1, 100000} {
		checkRefused(t, "ids alone", api.Graph{IDs: make([]api.ID, n)}, api.ErrBad)
		checkRefused(t, "many ids", api.Graph{IDs: append(idsOf(alone(1)), make([]api.ID, n)...), Ops: opsOf(alone(1))}, api.ErrBad)
	}
}

// P9.1: ErrBad for an operation that is not valid, or not signed, in any place.
func TestCheckFaulty(t *testing.T) {
	for _, l := range smallShapes() {
		for i, n := range l {
			for _, f := range faultyOps(n.o) {
				g := graphOf(l)
				at := slices.Index(g.IDs, n.id)
				g.Ops[at] = f.o
				checkError(t, f.name, g, api.ErrBad)
				if id, e := op.ID(f.o); e == api.OK {
					// With the right id nothing but its signature is wrong.
					changed := slices.Clone(l)
					changed[i] = node{f.o, id}
					checkError(t, f.name+" with its id", graphOf(changed), api.ErrBad)
				}
			}
		}
	}
}

// P9.1: each function refuses graphs with such operations.
func TestFaultyRefused(t *testing.T) {
	for _, f := range faultyOps(made(0).o) {
		g := graphOf(diamond())
		g.Ops[3] = f.o
		checkRefused(t, f.name, g, api.ErrBad)
		checkRefused(t, f.name, api.Graph{IDs: idsOf(alone(1)), Ops: []api.Op{f.o}}, api.ErrBad)
		checkRefused(t, f.name+" with the zero id", api.Graph{IDs: make([]api.ID, 1), Ops: []api.Op{f.o}}, api.ErrBad)
	}
}

// P9.1: nothing is wrong with an operation but that it is not signed, or is signed by another author, alone in a graph or behind and before others.
func TestCheckUnsigned(t *testing.T) {
	for _, preds := range [][]node{nil, alone(1), alone(2), alone(maxPreds)} {
		right := signed(5, api.Op{Stamp: 99, Act: add("a")}, preds...)
		other := signed(6, api.Op{Stamp: 99, Act: add("a")}, preds...)
		stolen := right.o
		stolen.Author = other.o.Author
		if e := dag.Check(graphOf(append(preds, right))); e != api.OK {
			t.Errorf("Check with a signed one = %v", e)
		}
		for _, o := range []api.Op{unsigned(right.o), stolen} {
			wrong := named(o)
			checkRefused(t, "not signed", graphOf(append(preds, wrong)), api.ErrBad)
			checkRefused(t, "not signed, before another one", graphOf(append(preds, wrong, made(50, wrong))), api.ErrBad)
		}
	}
}

// P9.1: ErrBad for ids that are those of other operations, or of none, though they increase.
func TestCheckIDs(t *testing.T) {
	for _, l := range smallShapes() {
		whole := graphOf(l)
		for i := range l {
			for _, id := range append(otherIDs(whole.IDs[i]), made(99).id) {
				g := graphOf(l)
				g.IDs[i] = id
				checkError(t, "another id", g, api.ErrBad)
			}
			for j := range l {
				if i != j {
					ids, ops := graphOf(l), graphOf(l)
					ids.IDs[i], ids.IDs[j] = ids.IDs[j], ids.IDs[i]
					ops.Ops[i], ops.Ops[j] = ops.Ops[j], ops.Ops[i]
					checkError(t, "swapped ids", ids, api.ErrBad)
					checkError(t, "swapped operations", ops, api.ErrBad)
					ids.IDs[i] = ids.IDs[j]
					checkError(t, "equal ids", ids, api.ErrBad)
				}
			}
		}
	}
}

// P9.1: ErrOrder for operations with their ids in any other order.
func TestCheckOrder(t *testing.T) {
	for _, l := range shapes() {
		sorted := nodesOf(graphOf(l))
		for i := range len(sorted) - 1 {
			swapped := slices.Clone(sorted)
			swapped[i], swapped[i+1] = swapped[i+1], swapped[i]
			checkError(t, "swapped at "+strconv.Itoa(i), inOrder(swapped), api.ErrOrder)
		}
		if len(l) < 2 {
			continue
		}
		down := slices.Clone(sorted)
		slices.Reverse(down)
		checkRefused(t, "down", inOrder(down), api.ErrOrder)
		checkRefused(t, "the first one last", inOrder(append(sorted[1:], sorted[0])), api.ErrOrder)
	}
}

// P9.1: ErrOrder for an operation that is there twice.
func TestCheckTwice(t *testing.T) {
	for _, l := range smallShapes() {
		sorted := nodesOf(graphOf(l))
		for i := range sorted {
			checkRefused(t, "twice", inOrder(slices.Insert(slices.Clone(sorted), i, sorted[i])), api.ErrOrder)
			checkRefused(t, "again at the end", inOrder(append(slices.Clone(sorted), sorted[i])), api.ErrOrder)
		}
	}
}

// P9.1: ErrOpen where an operation is missing that is directly before one; without one that is before none the rest is valid.
func TestCheckOpen(t *testing.T) {
	missing := 0
	for _, l := range shapes() {
		for i, n := range l {
			rest := slices.Delete(slices.Clone(l), i, i+1)
			if isNamed(rest, n.id) {
				missing++
				checkError(t, "open", graphOf(rest), api.ErrOpen)
			} else if e := dag.Check(graphOf(rest)); e != api.OK {
				t.Errorf("Check without one of %d = %v", len(l), e)
			}
		}
	}
	if missing < 400 {
		t.Errorf("only %d were missing", missing)
	}
}

// isNamed reports whether an id is a predecessor of one of some operations.
func isNamed(l []node, id api.ID) bool {
	return slices.ContainsFunc(l, func(n node) bool { return slices.Contains(n.o.Preds, id) })
}

// P9.1: ErrOpen for predecessors that are no operation's, and for each one of several.
func TestCheckOpenPreds(t *testing.T) {
	for n := 1; n <= maxPreds; n++ {
		l := join(n)
		last := l[n]
		checkRefused(t, "alone behind others", graphOf([]node{last}), api.ErrOpen)
		for i := range n {
			checkRefused(t, "all but one", graphOf(slices.Delete(slices.Clone(l), i, i+1)), api.ErrOpen)
			if n > 1 {
				checkRefused(t, "only one", graphOf([]node{l[i], last}), api.ErrOpen)
			}
		}
	}
	for _, id := range otherIDs() {
		n := signed(3, api.Op{Act: none()}, node{id: id})
		checkRefused(t, "behind nothing", graphOf([]node{n}), api.ErrOpen)
		checkRefused(t, "one behind nothing", graphOf(append(alone(3), n)), api.ErrOpen)
	}
}

func errorOf(wrong bool, e api.Errno) api.Errno {
	if wrong {
		return e
	}
	return api.OK
}

// P9.1 and R1: ErrMany, ErrBad, ErrOrder, ErrOpen, in this order, for each choice of faults.
func TestCheckErrorOrder(t *testing.T) {
	for bits := range 16 {
		many, bad, disordered, open := bits&1 != 0, bits&2 != 0, bits&4 != 0, bits&8 != 0
		size := maxList
		if many {
			size++
		}
		l := chain(size)
		if open {
			l[0] = made(1000)
		}
		g := graphOf(l)
		if disordered {
			g.IDs[0], g.IDs[1] = g.IDs[1], g.IDs[0]
			g.Ops[0], g.Ops[1] = g.Ops[1], g.Ops[0]
		}
		if bad {
			g.Ops[size-1].Sig = api.Sig{}
		}
		want := errorOf(open, api.ErrOpen)
		if disordered {
			want = api.ErrOrder
		}
		if bad {
			want = api.ErrBad
		}
		if many {
			want = api.ErrMany
		}
		if bits != 0 {
			checkRefused(t, "faults "+strconv.Itoa(bits), g, want)
		} else if e := dag.Check(g); e != api.OK {
			t.Errorf("Check = %v", e)
		}
	}
}
