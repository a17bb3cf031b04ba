package shard_test

import (
	"slices"
	"strconv"
	"testing"

	"braid/api"
)

// P11.1: indices of all shapes, with any number of parts, are valid.
func TestCheck(t *testing.T) {
	for _, l := range shapes() {
		for _, s := range indices(l) {
			checkIndex(t, strconv.Itoa(len(l))+" operations", s, api.OK)
		}
	}
}

// P11.1 and R3: it does not matter whether what is empty is nil.
func TestCheckEmpty(t *testing.T) {
	for n := 1; n <= maxShards; n++ {
		s := api.Shards{Heads: []api.ID{}}
		for range n {
			s.Parts = append(s.Parts, api.Graph{IDs: []api.ID{}, Ops: []api.Op{}})
		}
		checkIndex(t, "not nil", s, api.OK)
		s.Parts[n-1] = api.Graph{IDs: []api.ID{}}
		checkIndex(t, "one nil", s, api.OK)
	}
}

// P11.1: ids whose first byte is less than the number of parts, the same, and more, are right in the part that the byte tells, and in no other.
func TestCheckFirstBytes(t *testing.T) {
	for first := range byte(2*maxShards + 2) {
		l := []node{beginning(first)}
		for n := 1; n <= maxShards; n++ {
			for i := range n {
				s := api.Shards{Parts: make([]api.Graph, n), Heads: idsOf(l), Version: 1}
				s.Parts[i] = graphOf(l)
				if i == int(first)%n {
					checkIndex(t, "the right part", s, api.OK)
				} else {
					checkRefused(t, "another part", s)
				}
			}
		}
	}
}

// P11.1: ErrBad for no parts, and for more than MaxShards, with operations or without.
func TestCheckParts(t *testing.T) {
	checkRefused(t, "zero", api.Shards{})
	checkRefused(t, "no parts", api.Shards{Parts: []api.Graph{}})
	checkRefused(t, "no parts, with heads", api.Shards{Heads: idsOf(alone(1)), Version: 1})
	for _, l := range [][]node{nil, alone(1), diamond(), chain(10), alone(maxList)} {
		for _, n := range []int{maxShards + 1, maxShards + 2, 2 * maxShards, 256, 10000} {
			checkRefused(t, strconv.Itoa(n)+" parts", indexOf(l, n))
		}
	}
}

// P11.1: ErrBad for the parts of an index with another number of parts: an empty one more, or one less.
func TestCheckOtherParts(t *testing.T) {
	l := scattered(newDraw(), 20)
	for n := 1; n < maxShards; n++ {
		more, less := indexOf(l, n), indexOf(l, n+1)
		more.Parts = append(more.Parts, api.Graph{})
		checkRefused(t, "a part more", more)
		less.Parts = less.Parts[:n]
		checkRefused(t, "a part less", less)
		first := indexOf(l, n+1)
		first.Parts = first.Parts[1:]
		checkRefused(t, "without the first part", first)
	}
}

// P11.1: ErrBad where ids of a part do not increase strictly: two swapped, all down, or one twice.
func TestCheckOrder(t *testing.T) {
	for _, l := range [][]node{alone(12), chain(12), wide(14, maxPreds), alone(maxList - 1)} {
		for n := 1; n <= maxShards; n++ {
			for i, p := range indexOf(l, n).Parts {
				up := nodesOf(p)
				for at := 0; at+1 < len(up); at += max(1, len(up)/4) {
					s, swapped := indexOf(l, n), slices.Clone(up)
					swapped[at], swapped[at+1] = swapped[at+1], swapped[at]
					s.Parts[i] = inOrder(swapped)
					checkRefused(t, "swapped at "+strconv.Itoa(at), s)
				}
				if len(up) > 1 {
					s := indexOf(l, n)
					slices.Reverse(s.Parts[i].IDs)
					slices.Reverse(s.Parts[i].Ops)
					checkRefused(t, "down", s)
				}
				for _, at := range []int{0, len(up) - 1} {
					s := indexOf(l, n)
					s.Parts[i] = inOrder(slices.Insert(slices.Clone(up), at, up[at]))
					checkRefused(t, "twice", s)
					s.Version++
					checkRefused(t, "twice, and counted twice", s)
				}
			}
		}
	}
}

// P11.1: ErrBad where an id is in a part with another number, alone there, before others or behind them; also where it is in its part as well.
func TestCheckNumbers(t *testing.T) {
	l := scattered(newDraw(), 16)
	for n := 2; n <= maxShards; n++ {
		for _, moved := range l {
			for i := range n {
				if i == int(moved.id[0])%n {
					continue
				}
				s := indexOf(l, n)
				s.Parts[i] = graphOf(append(nodesOf(s.Parts[i]), moved))
				checkIndex(t, "in two parts", s, api.ErrBad)
				s.Version++
				checkIndex(t, "in two parts, and counted twice", s, api.ErrBad)
				own := int(moved.id[0]) % n
				s.Parts[own] = graphOf(slices.DeleteFunc(nodesOf(s.Parts[own]), func(m node) bool { return m.id == moved.id }))
				s.Version--
				checkIndex(t, "in another part", s, api.ErrBad)
			}
		}
		s := indexOf(l, n)
		s.Parts[0], s.Parts[n-1] = s.Parts[n-1], s.Parts[0]
		checkRefused(t, "swapped parts", s)
		s = indexOf(l, n)
		s.Parts = slices.Repeat([]api.Graph{{}}, n)
		s.Parts[n-1] = graphOf(l)
		checkRefused(t, "all in the last part", s)
	}
}

// P11.1: ErrBad for parts with more or fewer ids than operations, also where there are as many of both in all parts together.
func TestCheckCounts(t *testing.T) {
	for _, l := range [][]node{alone(1), alone(3), chain(9), diamond(), alone(maxList)} {
		for n := 1; n <= maxShards; n++ {
			for i, p := range indexOf(l, n).Parts {
				if len(p.IDs) == 0 {
					continue
				}
				last := len(p.IDs) - 1
				for name, part := range map[string]api.Graph{
					"no ids":            {Ops: p.Ops},
					"no operations":     {IDs: p.IDs},
					"an id less":        {IDs: p.IDs[:last], Ops: p.Ops},
					"not the first id":  {IDs: p.IDs[1:], Ops: p.Ops},
					"an operation less": {IDs: p.IDs, Ops: p.Ops[:last]},
					"not the first":     {IDs: p.IDs, Ops: p.Ops[1:]},
					"an operation more": {IDs: p.IDs, Ops: append(slices.Clone(p.Ops), p.Ops[0])},
				} {
					s := indexOf(l, n)
					s.Parts[i] = part
					checkRefused(t, name, s)
					s.Version = max(0, len(l)+len(part.IDs)-len(p.IDs))
					checkRefused(t, name+", and counted", s)
					s.Version = max(0, len(l)+len(part.Ops)-len(p.Ops))
					checkRefused(t, name+", and counted", s)
				}
			}
		}
	}
	s := indexOf(chain(12), 2)
	zero, one := nodesOf(s.Parts[0]), nodesOf(s.Parts[1])
	s.Parts[0] = api.Graph{IDs: idsOf(zero), Ops: opsOf(zero[1:])}
	s.Parts[1] = api.Graph{IDs: idsOf(one[1:]), Ops: opsOf(one)}
	checkRefused(t, "as many together", s)
	s = indexOf(chain(12), 2)
	s.Parts[0], s.Parts[1] = api.Graph{IDs: s.Parts[0].IDs, Ops: s.Parts[1].Ops}, api.Graph{IDs: s.Parts[1].IDs, Ops: s.Parts[0].Ops}
	checkRefused(t, "swapped operations", s)
	checkRefused(t, "ids alone", api.Shards{Parts: []api.Graph{{IDs: make([]api.ID, 100)}}})
}

// P11.1: ErrBad where operations have other ids, which may stand in their places.
func TestCheckIDs(t *testing.T) {
	for _, l := range [][]node{alone(1), diamond(), chain(8)} {
		for n := 1; n <= maxShards; n++ {
			for i, p := range indexOf(l, n).Parts {
				for at, id := range p.IDs {
					s := indexOf(l, n)
					s.Parts[i].IDs[at][31] ^= 1
					checkRefused(t, "another id", s)
					if h := slices.Index(s.Heads, id); h >= 0 {
						s.Heads[h][31] ^= 1
						checkRefused(t, "another id, and head", s)
					}
				}
				for at := range len(p.IDs) - 1 {
					s := indexOf(l, n)
					ops := s.Parts[i].Ops
					ops[at], ops[at+1] = ops[at+1], ops[at]
					checkRefused(t, "swapped operations", s)
				}
			}
		}
	}
}

// P11.1: ErrBad for an operation that is not valid or not signed, in any part, with the id of what it was made of, or with its own one.
func TestCheckFaulty(t *testing.T) {
	l := diamond()
	for n := 1; n <= maxShards; n++ {
		for i, p := range indexOf(l, n).Parts {
			for at := range p.Ops {
				for _, f := range faultyOps(p.Ops[at]) {
					s := indexOf(l, n)
					s.Parts[i].Ops[at] = f.o
					checkRefused(t, f.name, s)
					s.Heads = nil
					checkIndex(t, f.name+", without heads", s, api.ErrBad)
				}
			}
		}
		wrong := named(unsigned(made(0).o))
		checkRefused(t, "not signed", indexOf([]node{wrong}, n))
		checkRefused(t, "behind one that is not signed", indexOf([]node{wrong, made(1, wrong)}, n))
	}
	checkRefused(t, "a zero operation", api.Shards{Parts: []api.Graph{{IDs: make([]api.ID, 1), Ops: make([]api.Op, 1)}}, Heads: make([]api.ID, 1), Version: 1})
}

// P11.1: ErrBad where no part has a predecessor; one in another part, or in the same one, is right.
func TestCheckOpen(t *testing.T) {
	for _, l := range [][]node{chain(2), chain(5), diamond(), join(maxPreds), fork(5)} {
		for _, s := range indices(l[1:]) {
			checkRefused(t, "without the first one", s)
			s.Heads = nil
			checkRefused(t, "without the first one, and without heads", s)
		}
	}
	stranger := signed(3, api.Op{Act: none()}, node{id: api.ID{1}})
	for _, s := range indices(append(alone(3), stranger)) {
		checkRefused(t, "behind nothing", s)
	}
	for first := range byte(maxShards) {
		for second := range byte(maxShards) {
			a := beginning(first)
			b := beginning(second, a)
			for _, s := range indices([]node{a, b}) {
				checkIndex(t, "behind each other", s, api.OK)
			}
			for _, s := range indices([]node{b}) {
				checkRefused(t, "without the first one", s)
			}
		}
	}
}

// P11.1: ErrBad for more than MaxList operations together, in whichever parts they are.
func TestCheckMany(t *testing.T) {
	for _, l := range [][]node{alone(maxList + 1), chain(maxList + 1), wide(2*maxList, maxPreds)} {
		for _, s := range indices(l) {
			checkRefused(t, "too many", s)
			s.Heads = nil
			checkRefused(t, "too many, without heads", s)
		}
	}
	for n := 1; n <= maxShards; n++ {
		s := api.Shards{Parts: make([]api.Graph, n), Version: 100000}
		s.Parts[n-1] = api.Graph{IDs: make([]api.ID, 100000), Ops: make([]api.Op, 100000)}
		checkRefused(t, "very many", s)
	}
}

// P11.1: ErrBad where Heads lack a head, have another id, have one twice, or are in another order.
func TestCheckHeads(t *testing.T) {
	for _, l := range [][]node{alone(1), alone(6), chain(4), diamond(), fork(5), wide(12, 2), alone(20)} {
		for _, s := range indices(l) {
			heads := s.Heads
			for i := 0; i < len(heads); i += max(1, len(heads)/6) {
				s.Heads = slices.Delete(slices.Clone(heads), i, i+1)
				checkRefused(t, "a head less", s)
				s.Heads = slices.Clone(heads)
				s.Heads[i][0] ^= 128
				checkRefused(t, "another id", s)
				s.Heads = slices.Insert(slices.Clone(heads), i, heads[i])
				checkRefused(t, "a head twice", s)
			}
			for i := range len(heads) - 1 {
				s.Heads = slices.Clone(heads)
				s.Heads[i], s.Heads[i+1] = heads[i+1], heads[i]
				checkIndex(t, "swapped", s, api.ErrBad)
			}
			for _, id := range append(otherIDs(), idsOf(l)...) {
				if !slices.Contains(heads, id) {
					s.Heads = sorted(append(slices.Clone(heads), id))
					checkIndex(t, "an id more", s, api.ErrBad)
				}
			}
			s.Heads = nil
			checkRefused(t, "no heads", s)
		}
	}
	for n := 1; n <= maxShards; n++ {
		checkRefused(t, "a head of nothing", api.Shards{Parts: make([]api.Graph, n), Heads: make([]api.ID, 1)})
	}
}

// P11.1: ErrBad unless Version is the number of operations.
func TestCheckVersion(t *testing.T) {
	for _, l := range [][]node{nil, alone(1), diamond(), alone(maxList)} {
		for _, s := range indices(l) {
			for _, version := range []int{-1, 0, 1, len(l) - 1, len(l) + 1, -len(l), 2 * len(l), maxList, len(l) + 1<<8, len(l) + 1<<32, -1 << 63} {
				if version != len(l) {
					s.Version = version
					checkRefused(t, "version "+strconv.Itoa(version), s)
				}
			}
		}
	}
}
