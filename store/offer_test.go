package store_test

import (
	"slices"
	"testing"

	"braid/api"
	"braid/op"
	"braid/store"
)

func mustOffer(t *testing.T, s api.Store, n node, verdict uint8) api.Store {
	t.Helper()
	next, v, e := store.Offer(s, n.o)
	if e != api.OK || v != verdict {
		t.Fatalf("Offer of %x to %d operations = %d, %v, want %d", n.id, len(s.Order), v, e, verdict)
	}
	return next
}

// P12.2: operations offered one by one, each one behind its predecessors, are committed: the index has each, and its id is behind the order.
func TestOffer(t *testing.T) {
	for _, l := range shapes() {
		for n := 1; n <= maxShards; n++ {
			if len(l) > 20 && n != len(l)%maxShards+1 {
				continue
			}
			capacity := max(1, len(l)+n%2*(maxStore-len(l)))
			s := mustNew(t, capacity, n)
			for i, m := range l {
				s = mustOffer(t, s, m, api.Committed)
				if !sameStore(s, storeOf(l[:i+1], capacity, n)) {
					t.Errorf("%d of %d operations in %d shards are %v", i+1, len(l), n, s)
				}
			}
		}
	}
}

// P12.2: the id goes behind the order, whether it is less than those there or greater; in the index it is in its place.
func TestOfferBehind(t *testing.T) {
	up := nodesOf(graphOf(alone(8)))
	down := slices.Clone(up)
	slices.Reverse(down)
	for _, l := range [][]node{up, down, append(up[4:8:8], up[:4]...)} {
		for n := 1; n <= maxShards; n++ {
			for i, m := range l {
				checkOffer(t, "one more", storeOf(l[:i], maxStore, n), m.o, storeOf(l[:i+1], maxStore, n), api.Committed, api.OK)
			}
		}
	}
}

// P12.2: Duplicate for what the store has, also where it is full; nothing changes.
func TestDuplicate(t *testing.T) {
	draw := newDraw()
	for _, l := range shapes() {
		for _, s := range append(stores(l), stores(anyOrder(draw, l))...) {
			for i := 0; i < len(l); i += max(1, len(l)/3) {
				checkOffer(t, "again", s, l[i].o, s, api.Duplicate, api.OK)
			}
		}
	}
}

// P12.2: Waiting where a predecessor is missing, any one of them, also where the store is full; nothing changes.
func TestWaiting(t *testing.T) {
	for n := 1; n <= maxPreds; n++ {
		l := join(n)
		last := l[n]
		for i := range n {
			for _, s := range stores(slices.Delete(slices.Clone(l[:n]), i, i+1)) {
				checkOffer(t, "all but one", s, last.o, s, api.Waiting, api.OK)
			}
		}
		for _, s := range stores(nil) {
			checkOffer(t, "to nothing", s, last.o, s, api.Waiting, api.OK)
		}
	}
	l := chain(5)
	for _, s := range stores(l[:2]) {
		checkOffer(t, "two behind", s, l[3].o, s, api.Waiting, api.OK)
		for _, id := range otherIDs(l[0].id) {
			checkOffer(t, "behind nothing", s, signed(3, api.Op{Act: none()}, node{id: id}).o, s, api.Waiting, api.OK)
			checkOffer(t, "one behind nothing", s, signed(3, api.Op{Act: none()}, node{id: id}, l[0]).o, s, api.Waiting, api.OK)
		}
	}
}

// P12.2: StoreFull where the version is the capacity, but not where there is room for one; nothing changes.
func TestStoreFull(t *testing.T) {
	for _, l := range [][]node{alone(maxStore + 1), chain(maxStore + 1), wide(maxStore+1, maxPreds)} {
		for capacity := 1; capacity <= maxStore; capacity++ {
			n := capacity%maxShards + 1
			full := storeOf(l[:capacity], capacity, n)
			checkOffer(t, "one too many", full, l[capacity].o, full, api.StoreFull, api.OK)
			checkOffer(t, "the last one", storeOf(l[:capacity-1], capacity, n), l[capacity-1].o, full, api.Committed, api.OK)
			if capacity < maxStore {
				room := storeOf(l[:capacity], capacity+1, n)
				checkOffer(t, "room for one", room, l[capacity].o, storeOf(l[:capacity+1], capacity+1, n), api.Committed, api.OK)
			}
		}
	}
}

// P12.2: of several verdicts that fit it is the first one: Duplicate, Waiting, StoreFull, Committed; with any other one than Committed nothing changes.
func TestVerdictOrder(t *testing.T) {
	l := wide(6, 2)
	stranger := made(700, made(701))
	for n := 1; n <= maxShards; n++ {
		full, room := storeOf(l[:4], 4, n), storeOf(l[:4], 5, n)
		for _, s := range []api.Store{full, room} {
			for _, m := range l[:4] {
				checkOffer(t, "one that is there", s, m.o, s, api.Duplicate, api.OK)
			}
			checkOffer(t, "one behind one that is not there", s, l[5].o, s, api.Waiting, api.OK)
			checkOffer(t, "a stranger", s, stranger.o, s, api.Waiting, api.OK)
		}
		checkOffer(t, "one without room", full, l[4].o, full, api.StoreFull, api.OK)
		checkOffer(t, "another one without room", full, made(702).o, full, api.StoreFull, api.OK)
		checkOffer(t, "one with room", room, l[4].o, storeOf(l[:5], 5, n), api.Committed, api.OK)
	}
}

// P12.2: Offer and Missing have op.Verify's error of the operation, whatever the store has: before all verdicts.
func TestOfferFaulty(t *testing.T) {
	for _, m := range []node{diamond()[0], diamond()[3], made(500, made(501))} {
		for _, f := range faultyOps(m.o) {
			if e := op.Verify(f.o); e != f.want {
				t.Errorf("%s: Verify = %v, want %v", f.name, e, f.want)
			}
			for _, l := range [][]node{nil, diamond()} {
				for _, s := range stores(l) {
					checkOffer(t, f.name, s, f.o, api.Store{}, 0, f.want)
					checkMissing(t, f.name, s, f.o, nil, f.want)
				}
			}
		}
	}
	for _, l := range [][]node{nil, alone(maxStore)} {
		for _, s := range stores(l) {
			checkOffer(t, "zero", s, api.Op{}, api.Store{}, 0, api.ErrBad)
			checkMissing(t, "zero", s, api.Op{}, nil, api.ErrBad)
			checkOffer(t, "very many predecessors", s, api.Op{Preds: make([]api.ID, 100000)}, api.Store{}, 0, api.ErrMany)
			checkMissing(t, "very many predecessors", s, api.Op{Preds: make([]api.ID, 100000)}, nil, api.ErrMany)
		}
	}
}

// P12.2: Missing returns just those predecessors that the store lacks, in increasing order: with each of them there or not.
func TestMissing(t *testing.T) {
	for n := range maxPreds + 1 {
		l := join(n)
		for some := range 1 << n {
			var there, lost []node
			for i, m := range l[:n] {
				if some>>i&1 == 1 {
					there = append(there, m)
				} else {
					lost = append(lost, m)
				}
			}
			for _, s := range stores(there) {
				checkMissing(t, "some", s, l[n].o, sorted(idsOf(lost)), api.OK)
			}
		}
	}
}

// P12.2: nothing is missing of what the store has, nor of what has no predecessors, nor of what is behind some that it has; also where it is full.
func TestMissingNone(t *testing.T) {
	for _, l := range shapes() {
		for _, s := range stores(l) {
			for i := 0; i < len(l); i += max(1, len(l)/3) {
				checkMissing(t, "one that is there", s, l[i].o, nil, api.OK)
				checkMissing(t, "one behind it", s, made(800, l[i]).o, nil, api.OK)
			}
			checkMissing(t, "one without predecessors", s, made(801).o, nil, api.OK)
		}
	}
}

// P12.2: only the predecessors themselves are missing, not those before them; near ids are other ones, and the least and the greatest may be missing too.
func TestMissingIDs(t *testing.T) {
	l := chain(5)
	for _, s := range stores(l[:2]) {
		checkMissing(t, "three behind", s, l[4].o, idsOf(l[3:4]), api.OK)
		checkMissing(t, "the last but one", s, l[3].o, idsOf(l[2:3]), api.OK)
		for _, id := range otherIDs(l[0].id, l[1].id) {
			checkMissing(t, "behind nothing", s, signed(3, api.Op{Act: none()}, node{id: id}, l[0]).o, []api.ID{id}, api.OK)
		}
		ends := otherIDs()
		strangers := []node{{id: ends[2]}, l[1], {id: ends[0]}, {id: ends[1]}}
		checkMissing(t, "both ends", s, signed(3, api.Op{Act: none()}, strangers...).o, ends, api.OK)
	}
}

// P12.2: an operation is Waiting just where something is missing.
func TestMissingWaits(t *testing.T) {
	l := scattered(newDraw(), 14)
	for i := range l {
		for _, s := range stores(l[:i]) {
			for _, m := range l {
				lost, e := store.Missing(s, m.o)
				_, v, _ := store.Offer(s, m.o)
				if e != api.OK || (len(lost) > 0) != (v == api.Waiting) {
					t.Errorf("%x is missing, and the verdict is %d, %v", lost, v, e)
				}
			}
		}
	}
}
