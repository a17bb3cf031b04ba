package ancestry_test

import (
	"slices"
	"testing"

	"braid/api"
)

// P10.1: in a chain all operations before one are its ancestors, and its depth is their number.
func TestChain(t *testing.T) {
	for _, n := range []int{1, 2, 3, 10, maxList} {
		l := chain(n)
		g := graphOf(l)
		for i, o := range l {
			checkAncestors(t, g, o.id, sorted(idsOf(l[:i])), api.OK)
			checkDepth(t, g, o.id, i, api.OK)
			for j := 0; j < n; j += max(1, n/10) {
				checkIs(t, g, l[j].id, o.id, j < i, api.OK)
				checkIs(t, g, o.id, l[j].id, i < j, api.OK)
			}
		}
	}
}

// P10.1: an operation without predecessors has no ancestors and the depth 0, alone in a graph too.
func TestWithoutPreds(t *testing.T) {
	for _, n := range []int{1, 2, 5, maxList} {
		l := alone(n)
		g := graphOf(l)
		for i, o := range l {
			checkAncestors(t, g, o.id, nil, api.OK)
			checkDepth(t, g, o.id, 0, api.OK)
			checkIs(t, g, o.id, o.id, false, api.OK)
			checkIs(t, g, o.id, l[(i+1)%n].id, false, api.OK)
		}
	}
	l := append(chain(6), alone(9)[8])
	checkAncestors(t, graphOf(l), l[6].id, nil, api.OK)
	checkDepth(t, graphOf(l), l[6].id, 0, api.OK)
}

// P10.1: forks, where those behind the same one are no ancestors of each other.
func TestFork(t *testing.T) {
	for _, n := range []int{1, 2, 6, maxList - 1} {
		l := fork(n)
		g := graphOf(l)
		checkAncestors(t, g, l[0].id, nil, api.OK)
		checkDepth(t, g, l[0].id, 0, api.OK)
		for i, o := range l[1:] {
			checkAncestors(t, g, o.id, idsOf(l[:1]), api.OK)
			checkDepth(t, g, o.id, 1, api.OK)
			checkIs(t, g, l[0].id, o.id, true, api.OK)
			checkIs(t, g, o.id, l[0].id, false, api.OK)
			checkIs(t, g, o.id, l[1+(i+1)%n].id, false, api.OK)
		}
	}
}

// P10.1: joins, with 1 to MaxPreds predecessors.
func TestJoin(t *testing.T) {
	for n := 1; n <= maxPreds; n++ {
		l := join(n)
		g := graphOf(l)
		checkAncestors(t, g, l[n].id, sorted(idsOf(l[:n])), api.OK)
		checkDepth(t, g, l[n].id, 1, api.OK)
		for _, o := range l[:n] {
			checkIs(t, g, o.id, l[n].id, true, api.OK)
			checkIs(t, g, l[n].id, o.id, false, api.OK)
			checkAncestors(t, g, o.id, nil, api.OK)
		}
	}
}

// P10.1: the depth is one more than that of the deepest predecessor, whichever place it has among them, and ancestors are those on all ways.
func TestUnevenJoin(t *testing.T) {
	places := map[int]int{}
	for seed := range 30 {
		deep := []node{made(seed)}
		for i := range 5 {
			deep = append(deep, made(100*seed+i, deep[i]))
		}
		flat := []node{made(2000 + seed), made(3000 + seed), made(4000 + seed)}
		last := made(5000+seed, append(flat, deep[5])...)
		places[slices.Index(last.o.Preds, deep[5].id)]++
		l := slices.Concat(deep, flat, []node{last})
		g := graphOf(l)
		checkDepth(t, g, last.id, 6, api.OK)
		checkAncestors(t, g, last.id, sorted(idsOf(l[:len(l)-1])), api.OK)
		checkDepth(t, g, flat[0].id, 0, api.OK)
		checkIs(t, g, deep[0].id, last.id, true, api.OK)
		checkIs(t, g, flat[2].id, last.id, true, api.OK)
		checkIs(t, g, flat[2].id, deep[5].id, false, api.OK)
	}
	for place := range maxPreds {
		if places[place] == 0 {
			t.Errorf("the deepest predecessor never has the place %d", place)
		}
	}
}

// P10.1: a predecessor may be an ancestor of another one; it counts once, and the longest way makes the depth.
func TestShortcut(t *testing.T) {
	l := chain(3)
	l = append(l, made(3, l...))
	g := graphOf(l)
	checkAncestors(t, g, l[3].id, sorted(idsOf(l[:3])), api.OK)
	checkDepth(t, g, l[3].id, 3, api.OK)
	checkIs(t, g, l[0].id, l[3].id, true, api.OK)
	checkIs(t, g, l[0].id, l[2].id, true, api.OK)
}

// P10.1: diamonds, and one behind the other, where the ways to an operation are very many.
func TestBraided(t *testing.T) {
	l := braided(maxList / 3)
	g := graphOf(l)
	for i, o := range l {
		// The second one and the third one of three are not before each other.
		before := l[:i]
		if i%3 == 2 {
			before = slices.Concat(l[:i-1])
		}
		checkAncestors(t, g, o.id, sorted(idsOf(before)), api.OK)
		checkDepth(t, g, o.id, i/3*2+min(i%3, 1), api.OK)
	}
	l = wide(maxList, maxPreds)
	g = graphOf(l)
	for i, o := range l {
		checkAncestors(t, g, o.id, sorted(idsOf(l[:i])), api.OK)
		checkDepth(t, g, o.id, i, api.OK)
	}
}

// P10.1: for all operations of graphs of all shapes, and each two of them, what was worked out in another way.
func TestAncestorsLikeTruth(t *testing.T) {
	for _, l := range shapes() {
		w, g := truthOf(l), graphOf(l)
		step := max(1, len(l)/8)
		for j, o := range l {
			checkAncestors(t, g, o.id, sorted(idsOf(w.ancestors(j))), api.OK)
			if len(l) <= 12 || j%step == 0 {
				checkDepth(t, g, o.id, w.depth(j), api.OK)
			}
			for i := j % step; i < len(l); i += step {
				checkIs(t, g, l[i].id, o.id, w.before[i][j], api.OK)
			}
		}
	}
}

// P10.1: no operation is its own ancestor.
func TestNotItself(t *testing.T) {
	for _, l := range smallShapes() {
		for _, o := range l {
			checkIs(t, graphOf(l), o.id, o.id, false, api.OK)
		}
	}
}

// P10.1: ErrNone for ids that a graph does not have, least and greatest ones, those that differ in one bit, and those of operations that it lacks; of Is for either one, or both.
func TestNone(t *testing.T) {
	strangers := idsOf(wide(20, 3)[15:])
	for _, l := range smallShapes() {
		g := graphOf(l)
		own := idsOf(l)
		for _, id := range append(otherIDs(own[:min(len(own), 3)]...), strangers...) {
			if slices.Contains(own, id) {
				continue
			}
			checkAncestors(t, g, id, nil, api.ErrNone)
			checkDepth(t, g, id, 0, api.ErrNone)
			checkIs(t, g, id, id, false, api.ErrNone)
			checkIs(t, g, id, strangers[0], false, api.ErrNone)
			for _, o := range l {
				checkIs(t, g, id, o.id, false, api.ErrNone)
				checkIs(t, g, o.id, id, false, api.ErrNone)
			}
		}
	}
}

// P10.1: an operation that is behind those of a graph, but not in it, is none of it; nor is one whose predecessors are.
func TestNoneBehind(t *testing.T) {
	l := diamond()
	g := graphOf(l[:3])
	checkAncestors(t, g, l[3].id, nil, api.ErrNone)
	checkDepth(t, g, l[3].id, 0, api.ErrNone)
	checkIs(t, g, l[0].id, l[3].id, false, api.ErrNone)
	checkIs(t, g, l[3].id, l[0].id, false, api.ErrNone)
}
