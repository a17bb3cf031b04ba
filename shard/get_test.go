package shard_test

import (
	"slices"
	"testing"

	"braid/api"
)

// P11.2: an index has the ids of its operations; Get returns the operation with each.
func TestGet(t *testing.T) {
	for _, l := range shapes() {
		for _, s := range indices(l) {
			for i := 0; i < len(l); i += max(1, len(l)/12) {
				checkHas(t, s, l[i].id, true, api.OK)
				checkGet(t, s, l[i].id, l[i].o, api.OK)
			}
		}
	}
}

// P11.2: ids that no operation has, also those near to ids that one has, and those before and behind all ids of a part.
func TestGetNone(t *testing.T) {
	for _, l := range [][]node{nil, alone(1), alone(12), diamond(), chain(9), alone(maxList)} {
		ids := otherIDs(idsOf(l)[:min(len(l), 4)]...)
		for number := range byte(maxShards) {
			ids = append(ids, api.ID{number}, api.ID{252 + number, 255, 255})
		}
		for _, s := range indices(l) {
			for _, id := range ids {
				checkHas(t, s, id, false, api.OK)
				checkGet(t, s, id, api.Op{}, api.ErrNone)
			}
		}
	}
}

// P11.2: an index does not have operations that others have, also where it is behind them.
func TestGetOthers(t *testing.T) {
	l := wide(12, 2)
	for i := range l {
		for _, s := range indices(l[:i]) {
			for j, n := range l {
				if j < i {
					checkHas(t, s, n.id, true, api.OK)
					checkGet(t, s, n.id, n.o, api.OK)
				} else {
					checkHas(t, s, n.id, false, api.OK)
					checkGet(t, s, n.id, api.Op{}, api.ErrNone)
				}
			}
		}
	}
}

// P11.2: ids whose first byte is less than the number of parts, the same, and more.
func TestGetFirstBytes(t *testing.T) {
	var l []node
	for first := range byte(2*maxShards + 2) {
		l = append(l, beginning(first))
	}
	for _, first := range []byte{127, 128, 254, 255} {
		l = append(l, beginning(first))
	}
	for i, n := range l {
		rest := slices.Delete(slices.Clone(l), i, i+1)
		for _, s := range indices(rest) {
			checkHas(t, s, n.id, false, api.OK)
			checkGet(t, s, n.id, api.Op{}, api.ErrNone)
		}
		for _, s := range indices(l) {
			checkHas(t, s, n.id, true, api.OK)
			checkGet(t, s, n.id, n.o, api.OK)
		}
	}
}

// P11.4: All returns the operations of all parts in increasing order of their ids, Heads the heads and the version.
func TestAll(t *testing.T) {
	for _, l := range shapes() {
		for _, s := range indices(l) {
			checkAll(t, s, graphOf(l), api.OK)
			checkHeads(t, s, headsOf(l), len(l), api.OK)
		}
	}
}

// P11.4: heads of shapes that are known.
func TestHeads(t *testing.T) {
	one := []api.ID{chain(5)[4].id}
	for n := 1; n <= maxShards; n++ {
		checkHeads(t, indexOf(nil, n), nil, 0, api.OK)
		checkHeads(t, indexOf(chain(5), n), one, 5, api.OK)
		checkHeads(t, indexOf(diamond(), n), []api.ID{diamond()[3].id}, 4, api.OK)
		checkHeads(t, indexOf(fork(5), n), sorted(idsOf(fork(5)[1:])), 6, api.OK)
		checkHeads(t, indexOf(join(maxPreds), n), []api.ID{join(maxPreds)[maxPreds].id}, maxPreds+1, api.OK)
		checkHeads(t, indexOf(alone(maxList), n), sorted(idsOf(alone(maxList))), maxList, api.OK)
		checkHeads(t, indexOf(chain(maxList), n), []api.ID{chain(maxList)[maxList-1].id}, maxList, api.OK)
	}
}
