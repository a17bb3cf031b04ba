package ancestry_test

import (
	"cmp"
	"slices"
	"testing"

	"braid/api"
)

// P10.2: the canonical order of chains, forks, joins, and of operations without predecessors.
func TestOrder(t *testing.T) {
	checkOrder(t, api.Graph{}, nil, api.OK)
	checkOrder(t, api.Graph{IDs: []api.ID{}, Ops: []api.Op{}}, nil, api.OK)
	for _, n := range []int{1, 2, 5, 10, maxList} {
		checkOrder(t, graphOf(alone(n)), sorted(idsOf(alone(n))), api.OK)
		checkOrder(t, graphOf(chain(n)), idsOf(chain(n)), api.OK)
		checkOrder(t, graphOf(wide(n, maxPreds)), idsOf(wide(n, maxPreds)), api.OK)
	}
	for _, n := range []int{1, 2, 6, maxList - 1} {
		ids := idsOf(fork(n))
		checkOrder(t, graphOf(fork(n)), append(ids[:1], sorted(ids[1:])...), api.OK)
	}
	for n := 1; n <= maxPreds; n++ {
		ids := idsOf(join(n))
		checkOrder(t, graphOf(join(n)), append(sorted(ids[:n]), ids[n]), api.OK)
	}
	ids := idsOf(diamond())
	checkOrder(t, graphOf(diamond()), slices.Concat(ids[:1], sorted(ids[1:3]), ids[3:]), api.OK)
	ids = idsOf(braided(2))
	checkOrder(t, graphOf(braided(2)), slices.Concat(ids[:1], sorted(ids[1:3]), ids[3:4], sorted(ids[4:])), api.OK)
}

// P10.2: each time the least id of all that can be taken is next, be it that of one that could be taken for long, or of one that waited for the last one.
func TestOrderOfTwoChains(t *testing.T) {
	one, two := chain(20), []node{made(100)}
	for i := range 19 {
		two = append(two, made(101+i, two[i]))
	}
	var want []api.ID
	turns := 0
	for i, j := 0, 0; i < 20 || j < 20; {
		if j == 20 || i < 20 && compare(one[i].id, two[j].id) < 0 {
			want = append(want, one[i].id)
			i++
		} else {
			want = append(want, two[j].id)
			j++
		}
		if n := len(want); n > 1 && compare(want[n-2], want[n-1]) > 0 {
			turns++
		}
	}
	if turns < 5 {
		t.Errorf("only %d ids are less than the one before", turns)
	}
	checkOrder(t, graphOf(append(one, two...)), want, api.OK)
}

// P10.2: what was worked out in another way; it is neither the increasing order, nor one by depths, nor one that goes on as far as may be behind what was taken.
func TestOrderLikeTruth(t *testing.T) {
	increasing, flat, deep := 0, 0, 0
	for _, l := range shapes() {
		w := truthOf(l)
		want := w.order()
		checkOrder(t, graphOf(l), want, api.OK)
		if !slices.Equal(want, sorted(want)) {
			increasing++
		}
		if !slices.Equal(want, byDepth(w)) {
			flat++
		}
		if !slices.Equal(want, onAndOn(w)) {
			deep++
		}
	}
	if min(increasing, flat, deep) < 10 {
		t.Errorf("too few shapes tell orders apart: %d, %d, %d", increasing, flat, deep)
	}
}

// byDepth has ids in increasing order of depths, and then of the ids.
func byDepth(w truth) []api.ID {
	depth := map[api.ID]int{}
	for j, n := range w.l {
		depth[n.id] = w.depth(j)
	}
	ids := idsOf(w.l)
	slices.SortFunc(ids, func(a, b api.ID) int { return cmp.Or(cmp.Compare(depth[a], depth[b]), compare(a, b)) })
	return ids
}

// onAndOn has each operation behind its ancestors, which are put in just before it.
func onAndOn(w truth) []api.ID {
	var l []api.ID
	for _, id := range sorted(idsOf(w.l)) {
		for _, next := range append(idsOf(w.ancestors(w.where(id))), id) {
			if !slices.Contains(l, next) {
				l = append(l, next)
			}
		}
	}
	return l
}
