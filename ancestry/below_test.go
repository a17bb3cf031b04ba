package ancestry_test

import (
	"math/rand"
	"slices"
	"testing"

	"braid/api"
)

// P10.3: below no ids there is nothing.
func TestBelowNothing(t *testing.T) {
	for _, l := range shapes() {
		checkBelow(t, graphOf(l), nil, nil, api.OK)
		checkBelow(t, graphOf(l), []api.ID{}, nil, api.OK)
	}
}

// P10.3: below an operation there are itself and its ancestors.
func TestBelowOne(t *testing.T) {
	for _, n := range []int{1, 2, 10, maxList} {
		l := chain(n)
		for i, o := range l {
			checkBelow(t, graphOf(l), []api.ID{o.id}, l[:i+1], api.OK)
		}
		for i, o := range alone(n) {
			checkBelow(t, graphOf(alone(n)), []api.ID{o.id}, alone(n)[i:i+1], api.OK)
		}
	}
	for n := 1; n <= maxPreds; n++ {
		l := join(n)
		checkBelow(t, graphOf(l), idsOf(l[n:]), l, api.OK)
		checkBelow(t, graphOf(l), idsOf(l[:1]), l[:1], api.OK)
		checkBelow(t, graphOf(l), idsOf(l[:n]), l[:n], api.OK)
	}
	l := fork(6)
	for _, o := range l[1:] {
		checkBelow(t, graphOf(l), []api.ID{o.id}, []node{l[0], o}, api.OK)
	}
	l = wide(maxList, maxPreds)
	checkBelow(t, graphOf(l), idsOf(l[maxList-1:]), l, api.OK)
}

// P10.3: below several ids, in any order, some of them several times, or before others of them.
func TestBelow(t *testing.T) {
	draw := rand.New(rand.NewSource(106))
	for _, l := range shapes() {
		w, g := truthOf(l), graphOf(l)
		checkBelow(t, g, idsOf(l), l, api.OK)
		checkBelow(t, g, sorted(idsOf(l)), l, api.OK)
		for range 8 {
			ids := mixed(draw, idsOf(l))[:draw.Intn(min(len(l), 6)+1)]
			checkBelow(t, g, ids, w.below(ids), api.OK)
			slices.Reverse(ids)
			checkBelow(t, g, ids, w.below(ids), api.OK)
			checkBelow(t, g, mixed(draw, slices.Repeat(ids, 3)), w.below(ids), api.OK)
		}
	}
}

// P10.3: a list of MaxList ids is taken, whether they are all of a graph or one of them many times.
func TestBelowFull(t *testing.T) {
	for _, l := range [][]node{alone(maxList), chain(maxList), wide(maxList, maxPreds)} {
		checkBelow(t, graphOf(l), idsOf(l), l, api.OK)
		for _, i := range []int{0, 1, 30, maxList - 1} {
			ids := []api.ID{l[i].id}
			checkBelow(t, graphOf(l), slices.Repeat(ids, maxList), truthOf(l).below(ids), api.OK)
		}
	}
}

// P10.3: ErrNone where the graph lacks one of the ids, in whichever place of a list.
func TestBelowNone(t *testing.T) {
	for _, l := range smallShapes() {
		g := graphOf(l)
		for _, id := range append(otherIDs(idsOf(l)[:min(len(l), 2)]...), strangers(2)...) {
			checkBelow(t, g, []api.ID{id}, nil, api.ErrNone)
			checkBelow(t, g, []api.ID{id, id}, nil, api.ErrNone)
			for i := range len(l) + 1 {
				checkBelow(t, g, slices.Insert(idsOf(l), i, id), nil, api.ErrNone)
			}
		}
		checkBelow(t, g, strangers(maxList), nil, api.ErrNone)
	}
	l := diamond()
	checkBelow(t, graphOf(l[:3]), idsOf(l), nil, api.ErrNone)
	checkBelow(t, graphOf(l[:3]), idsOf(l[3:]), nil, api.ErrNone)
}

// P10.3 and R1: more than MaxList ids are ErrMany, also where the graph has all of them, and where it lacks the first one, or all.
func TestBelowMany(t *testing.T) {
	for _, l := range [][]node{nil, alone(1), diamond(), chain(maxList)} {
		g := graphOf(l)
		for _, n := range []int{maxList + 1, 2 * maxList, 100000} {
			if len(l) > 0 {
				checkBelow(t, g, slices.Repeat(idsOf(l[:1]), n), nil, api.ErrMany)
			}
			checkBelow(t, g, slices.Repeat([]api.ID{{}}, n), nil, api.ErrMany)
			checkBelow(t, g, make([]api.ID, n), nil, api.ErrMany)
		}
		checkBelow(t, g, strangers(maxList+1), nil, api.ErrMany)
		checkBelow(t, g, append(idsOf(l), strangers(maxList+1-len(l))...), nil, api.ErrMany)
		checkBelow(t, g, append(strangers(maxList), idsOf(l)...), nil, errorOf(len(l) > 0, api.ErrMany, api.ErrNone))
	}
}

func errorOf(many bool, a, b api.Errno) api.Errno {
	if many {
		return a
	}
	return b
}
