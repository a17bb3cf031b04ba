package ancestry_test

import (
	"math/rand"
	"slices"
	"testing"

	"braid/api"
)

// strangers are n ids of operations that no shape has, each one behind the one before it.
func strangers(n int) []api.ID {
	l := []node{made(10000)}
	for i := range n - 1 {
		l = append(l, made(10001+i, l[i]))
	}
	return idsOf(l)
}

// P10.3: nothing is missing of no ids, and of ids that a graph has, in any order and number.
func TestNothingMissing(t *testing.T) {
	draw := rand.New(rand.NewSource(103))
	for _, l := range shapes() {
		g := graphOf(l)
		ids := idsOf(l)
		checkMissing(t, g, nil, nil, api.OK)
		checkMissing(t, g, []api.ID{}, nil, api.OK)
		checkMissing(t, g, ids, nil, api.OK)
		checkMissing(t, g, mixed(draw, ids), nil, api.OK)
		if len(l) > 0 {
			checkMissing(t, g, slices.Repeat(ids[:1], maxList), nil, api.OK)
			checkMissing(t, g, ids[len(l)-1:], nil, api.OK)
		}
	}
}

// P10.3: all is missing that no operation has, in increasing order, each id once.
func TestAllMissing(t *testing.T) {
	draw := rand.New(rand.NewSource(104))
	for _, l := range smallShapes() {
		g := graphOf(l)
		near := otherIDs(idsOf(l)[:min(len(l), 5)]...)
		for _, ids := range [][]api.ID{strangers(1), strangers(2), strangers(30), strangers(maxList), near} {
			checkMissing(t, g, ids, sorted(ids), api.OK)
			checkMissing(t, g, sorted(ids), sorted(ids), api.OK)
			down := sorted(ids)
			slices.Reverse(down)
			checkMissing(t, g, down, sorted(ids), api.OK)
			checkMissing(t, g, mixed(draw, ids), sorted(ids), api.OK)
			twice := slices.Repeat(ids[:len(ids)/2], 2)
			checkMissing(t, g, mixed(draw, twice), sorted(ids[:len(ids)/2]), api.OK)
		}
		for _, id := range near {
			checkMissing(t, g, []api.ID{id}, []api.ID{id}, api.OK)
			checkMissing(t, g, slices.Repeat([]api.ID{id}, maxList), []api.ID{id}, api.OK)
		}
	}
}

// P10.3: of ids of both kinds, in any order and with some of them several times.
func TestSomeMissing(t *testing.T) {
	draw := rand.New(rand.NewSource(105))
	for _, l := range shapes() {
		g := graphOf(l)
		ids := mixed(draw, slices.Concat(idsOf(l[:min(len(l), 20)]), otherIDs(idsOf(l)[:min(len(l), 2)]...), strangers(20)))
		checkMissing(t, g, ids, truthOf(l).missing(ids), api.OK)
		ids = mixed(draw, slices.Concat(ids[:20], ids[:20], ids[5:20], ids[:5]))
		checkMissing(t, g, ids, truthOf(l).missing(ids), api.OK)
	}
}

// P10.3: predecessors of those of a list do not count, nor what is behind operations of the graph.
func TestMissingAlone(t *testing.T) {
	l := diamond()
	checkMissing(t, graphOf(l[:1]), idsOf(l[3:]), idsOf(l[3:]), api.OK)
	checkMissing(t, graphOf(l[:3]), idsOf(l), idsOf(l[3:]), api.OK)
	checkMissing(t, graphOf(l[:1]), idsOf(l), sorted(idsOf(l[1:])), api.OK)
}

// P10.3: a list of MaxList ids is taken, one with more is ErrMany, whichever ids it has and however often.
func TestMissingMany(t *testing.T) {
	for _, l := range [][]node{nil, alone(1), diamond(), chain(maxList)} {
		g := graphOf(l)
		own := api.ID{}
		if len(l) > 0 {
			own = l[0].id
		}
		checkMissing(t, g, strangers(maxList), sorted(strangers(maxList)), api.OK)
		for _, n := range []int{maxList + 1, maxList + 2, 2 * maxList, 100000} {
			checkMissing(t, g, slices.Repeat([]api.ID{own}, n), nil, api.ErrMany)
			checkMissing(t, g, slices.Repeat([]api.ID{{1, 2, 3}}, n), nil, api.ErrMany)
		}
		checkMissing(t, g, strangers(maxList+1), nil, api.ErrMany)
		checkMissing(t, g, append(idsOf(l), strangers(maxList+1-len(l))...), nil, api.ErrMany)
		checkMissing(t, g, append(strangers(maxList), own), nil, api.ErrMany)
	}
}
