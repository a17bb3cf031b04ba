package ancestry_test

import (
	"slices"
	"testing"

	"braid/api"
)

// P10.2: the heads of graphs of all shapes, in increasing order.
func TestHeads(t *testing.T) {
	checkHeads(t, api.Graph{}, nil, api.OK)
	checkHeads(t, api.Graph{IDs: []api.ID{}, Ops: []api.Op{}}, nil, api.OK)
	for _, n := range []int{1, 2, 5, maxList} {
		checkHeads(t, graphOf(alone(n)), sorted(idsOf(alone(n))), api.OK)
		checkHeads(t, graphOf(chain(n)), idsOf(chain(n)[n-1:]), api.OK)
		checkHeads(t, graphOf(wide(n, maxPreds)), idsOf(wide(n, maxPreds)[n-1:]), api.OK)
	}
	for _, n := range []int{1, 2, 6, maxList - 1} {
		checkHeads(t, graphOf(fork(n)), sorted(idsOf(fork(n)[1:])), api.OK)
	}
	for n := 1; n <= maxPreds; n++ {
		checkHeads(t, graphOf(join(n)), idsOf(join(n)[n:]), api.OK)
	}
	checkHeads(t, graphOf(diamond()), idsOf(diamond()[3:]), api.OK)
	checkHeads(t, graphOf(diamond()[:3]), sorted(idsOf(diamond()[1:3])), api.OK)
	checkHeads(t, graphOf(braided(5)), sorted(idsOf(braided(5)[13:])), api.OK)
	l := slices.Concat(chain(8), alone(9)[1:])
	checkHeads(t, graphOf(l), sorted(idsOf(l[7:])), api.OK)
}

// P10.2: what was worked out in another way.
func TestHeadsLikeTruth(t *testing.T) {
	for _, l := range shapes() {
		checkHeads(t, graphOf(l), sorted(idsOf(truthOf(l).heads())), api.OK)
	}
}

// P10.2: an operation that one alone names is no head, in whichever place it is named.
func TestNamedOnce(t *testing.T) {
	for n := 1; n <= maxPreds; n++ {
		l := join(n)
		more := alone(20)[10:]
		for i := range n {
			// All of l but the operation at i are named by others too.
			rest := slices.Delete(slices.Clone(l[:n]), i, i+1)
			behind := made(50, rest...)
			checkHeads(t, graphOf(slices.Concat(l, more, []node{behind})), sorted(idsOf(slices.Concat(l[n:], more, []node{behind}))), api.OK)
		}
	}
}
