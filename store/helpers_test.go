package store_test

import (
	"bytes"
	"crypto/sha256"
	"math/rand"
	"slices"
	"strings"
	"testing"

	"braid/api"
	"braid/op"
	"braid/store"
)

const (
	maxList   = 60
	maxPreds  = 4
	maxShards = 4
	maxStore  = 40
	maxStamp  = 1000000000000
	exponents = 500000003
)

// node is a signed operation with its id.
type node struct {
	o  api.Op
	id api.ID
}

func num(n int64) api.Value               { return api.Value{Kind: api.ValNumber, Num: n} }
func flt(b uint64) api.Value              { return api.Value{Kind: api.ValFloat, Bits: b} }
func text(s string) api.Value             { return api.Value{Kind: api.ValText, Text: s} }
func none() api.Act                       { return api.Act{Kind: api.ActNone} }
func add(key string) api.Act              { return api.Act{Kind: api.ActAdd, Key: key} }
func remove(key string) api.Act           { return api.Act{Kind: api.ActRemove, Key: key} }
func set(key string, v api.Value) api.Act { return api.Act{Kind: api.ActSet, Key: key, Value: v} }

// signed is an operation signed by a secret, behind some others.
func signed(secret uint32, o api.Op, preds ...node) node {
	o.Preds = idsOf(preds)
	slices.SortFunc(o.Preds, compare)
	o, e := op.Sign(secret, o)
	if e != api.OK {
		panic("an operation of the tests is not valid")
	}
	return named(o)
}

// named is a valid operation with its id.
func named(o api.Op) node {
	b, e := op.Encode(o)
	if e != api.OK {
		panic("an operation of the tests is not valid")
	}
	return node{o, sha256.Sum256(b)}
}

func compare(a, b api.ID) int {
	return bytes.Compare(a[:], b[:])
}

// made is the operation i of some, behind others: acts, authors and stamps differ from one to the next.
func made(i int, preds ...node) node {
	acts := []api.Act{none(), add("a"), remove("a"), set("x", num(-7)), set("size", flt(1)), set(strings.Repeat("k", 20), text("two words"))}
	return signed(uint32(i%7+1), api.Op{Stamp: uint64(i), Act: acts[i%len(acts)]}, preds...)
}

// alone are n operations without predecessors.
func alone(n int) []node {
	var l []node
	for i := range n {
		l = append(l, made(i))
	}
	return l
}

// wide are n operations, each one behind the last few before it, if there are so many.
func wide(n, few int) []node {
	var l []node
	for i := range n {
		l = append(l, made(i, l[max(0, i-few):]...))
	}
	return l
}

func chain(n int) []node {
	return wide(n, 1)
}

// fork is one operation, and n behind it.
func fork(n int) []node {
	l := []node{made(0)}
	for i := range n {
		l = append(l, made(i+1, l[0]))
	}
	return l
}

// join is n operations without predecessors, and one behind all of them.
func join(n int) []node {
	l := alone(n)
	return append(l, made(n, l...))
}

// diamond is a, then b and c behind a, and d behind b and c.
func diamond() []node {
	l := fork(2)
	return append(l, made(3, l[1:]...))
}

// scattered are n operations, each one behind any of those before it.
func scattered(draw *rand.Rand, n int) []node {
	var l []node
	for i := range n {
		var preds []node
		for _, j := range draw.Perm(i)[:min(i, draw.Intn(maxPreds+1))] {
			preds = append(preds, l[j])
		}
		l = append(l, made(i, preds...))
	}
	return l
}

// shapes are lists of operations, each one behind its predecessors, with those of stores as small and as great as may be.
func shapes() [][]node {
	l := [][]node{
		nil, alone(1), alone(2), alone(5), alone(maxStore), chain(2), chain(3), chain(10), chain(maxStore - 1), chain(maxStore),
		fork(2), fork(6), fork(maxStore - 1), join(1), join(2), join(3), join(maxPreds), diamond(), append(diamond(), alone(9)[7:]...),
		wide(12, 2), wide(12, maxPreds), wide(maxStore, maxPreds), braided(3), braided(maxStore / 3), slices.Concat(chain(8), alone(9)[1:]),
	}
	draw := rand.New(rand.NewSource(121))
	for n := range 12 {
		l = append(l, scattered(draw, n), scattered(draw, 3*n))
	}
	return append(l, scattered(draw, maxStore))
}

// braided are n diamonds, each one behind the one before it.
func braided(n int) []node {
	var l []node
	for i := range n {
		a := made(3*i, l[max(0, len(l)-2):]...)
		l = append(l, a, made(3*i+1, a), made(3*i+2, a))
	}
	return l
}

// smallShapes are those of the shapes with at most 12 operations.
func smallShapes() [][]node {
	return slices.DeleteFunc(shapes(), func(l []node) bool { return len(l) > 12 })
}

func opsOf(l []node) []api.Op {
	var ops []api.Op
	for _, n := range l {
		ops = append(ops, copyOp(n.o))
	}
	return ops
}

func idsOf(l []node) []api.ID {
	var ids []api.ID
	for _, n := range l {
		ids = append(ids, n.id)
	}
	return ids
}

func copyOp(o api.Op) api.Op {
	o.Preds = slices.Clone(o.Preds)
	return o
}

// graphOf is the graph of operations, sorted by the tests themselves.
func graphOf(l []node) api.Graph {
	return inOrder(slices.SortedFunc(slices.Values(l), func(a, b node) int { return compare(a.id, b.id) }))
}

// inOrder has operations and ids as they come, which makes a valid graph only of some.
func inOrder(l []node) api.Graph {
	return api.Graph{IDs: idsOf(l), Ops: opsOf(l)}
}

// nodesOf are the operations of a graph with as many ids.
func nodesOf(g api.Graph) []node {
	var l []node
	for i := range g.Ops {
		l = append(l, node{g.Ops[i], g.IDs[i]})
	}
	return l
}

func same(a, b api.Op) bool {
	return a.Author == b.Author && slices.Equal(a.Preds, b.Preds) && a.Stamp == b.Stamp && a.Act == b.Act && a.Sig == b.Sig
}

func sameGraph(a, b api.Graph) bool {
	return slices.Equal(a.IDs, b.IDs) && slices.EqualFunc(a.Ops, b.Ops, same)
}

// otherIDs are ids that no operation of the tests has, in increasing order but for copies of an id with one bit changed.
func otherIDs(near ...api.ID) []api.ID {
	least, middle, greatest := api.ID{}, api.ID{128}, api.ID{}
	for i := range greatest {
		greatest[i] = 255
	}
	l := []api.ID{least, middle, greatest}
	for _, id := range near {
		for _, bit := range []int{0, 7, 100, 248, 255} {
			other := id
			other[bit/8] ^= 1 << (bit % 8)
			l = append(l, other)
		}
	}
	return l
}

// sorted are ids in increasing order.
func sorted(ids []api.ID) []api.ID {
	return slices.SortedFunc(slices.Values(ids), compare)
}

// mixed are ids in another order.
func mixed(draw *rand.Rand, ids []api.ID) []api.ID {
	l := slices.Clone(ids)
	draw.Shuffle(len(l), func(i, j int) { l[i], l[j] = l[j], l[i] })
	return l
}

// indexOf is the index of operations with n parts, put together by the tests themselves.
func indexOf(l []node, n int) api.Shards {
	s := api.Shards{Parts: make([]api.Graph, n), Heads: headsOf(l), Version: len(l)}
	for i := range n {
		s.Parts[i] = graphOf(slices.DeleteFunc(slices.Clone(l), func(m node) bool { return int(m.id[0])%n != i }))
	}
	return s
}

// headsOf are the ids of operations that no other one names.
func headsOf(l []node) []api.ID {
	named := map[api.ID]bool{}
	for _, n := range l {
		for _, id := range n.o.Preds {
			named[id] = true
		}
	}
	return sorted(slices.DeleteFunc(idsOf(l), func(id api.ID) bool { return named[id] }))
}

func sameIndex(a, b api.Shards) bool {
	return slices.EqualFunc(a.Parts, b.Parts, sameGraph) && slices.Equal(a.Heads, b.Heads) && a.Version == b.Version
}

// beginning is an operation behind others whose id begins with a byte: the stamp is tried until it does.
func beginning(first byte, preds ...node) node {
	for stamp := uint64(0); ; stamp++ {
		if n := signed(3, api.Op{Stamp: stamp, Act: none()}, preds...); n.id[0] == first {
			return n
		}
	}
}

// storeOf is the store with a capacity and n parts in which operations were committed in their order, put together by the tests themselves.
func storeOf(l []node, capacity, n int) api.Store {
	return api.Store{Cap: capacity, Shards: indexOf(l, n), Order: idsOf(l)}
}

// stores are the stores of operations with 1 to MaxShards parts: full ones, ones with room for one more, and ones with all room that there may be.
func stores(l []node) []api.Store {
	var all []api.Store
	for n := 1; n <= maxShards; n++ {
		for _, capacity := range slices.Compact([]int{max(1, len(l)), min(len(l)+1, maxStore), maxStore}) {
			all = append(all, storeOf(l, capacity, n))
		}
	}
	return all
}

func sameStore(a, b api.Store) bool {
	return a.Cap == b.Cap && sameIndex(a.Shards, b.Shards) && slices.Equal(a.Order, b.Order)
}

// anyOrder is another order of operations in which each one is behind its predecessors.
func anyOrder(draw *rand.Rand, l []node) []node {
	var taken []node
	has := map[api.ID]bool{}
	for len(taken) < len(l) {
		n := l[draw.Intn(len(l))]
		if !has[n.id] && !slices.ContainsFunc(n.o.Preds, func(id api.ID) bool { return !has[id] }) {
			taken = append(taken, n)
			has[n.id] = true
		}
	}
	return taken
}

// The check functions fail unless a function returns what is wanted; with an error all else is zero.

func checkStore(t *testing.T, name string, s api.Store, want api.Errno) {
	t.Helper()
	if e := store.Check(s); e != want {
		t.Errorf("%s: Check of %d operations = %v, want %v", name, len(s.Order), e, want)
	}
}

func checkHas(t *testing.T, s api.Store, id api.ID, want bool, wantError api.Errno) {
	t.Helper()
	if has, e := store.Has(s, id); e != wantError || has != want {
		t.Errorf("Has in %d operations of %x = %v, %v, want %v, %v", len(s.Order), id, has, e, want, wantError)
	}
}

func checkMissing(t *testing.T, name string, s api.Store, o api.Op, want []api.ID, wantError api.Errno) {
	t.Helper()
	if l, e := store.Missing(s, o); e != wantError || !slices.Equal(l, want) {
		t.Errorf("%s: Missing from %d operations = %x, %v, want %x, %v", name, len(s.Order), l, e, want, wantError)
	}
}

func checkOffer(t *testing.T, name string, s api.Store, o api.Op, want api.Store, verdict uint8, wantError api.Errno) {
	t.Helper()
	if next, v, e := store.Offer(s, o); e != wantError || v != verdict || !sameStore(next, want) {
		t.Errorf("%s: Offer to %d operations = %v, %d, %v, want %v, %d, %v", name, len(s.Order), next, v, e, want, verdict, wantError)
	}
}

func checkRun(t *testing.T, name string, s api.Store, l []api.Op, want api.Store, verdicts []uint8, wantError api.Errno) {
	t.Helper()
	if next, v, e := store.Run(s, l); e != wantError || !slices.Equal(v, verdicts) || !sameStore(next, want) {
		t.Errorf("%s: Run of %d on %d operations = %v, %d, %v, want %v, %d, %v", name, len(l), len(s.Order), next, v, e, want, verdicts, wantError)
	}
}

func checkGraph(t *testing.T, s api.Store, want api.Graph, wantError api.Errno) {
	t.Helper()
	if g, e := store.Graph(s); e != wantError || !sameGraph(g, want) {
		t.Errorf("Graph of %d operations = %v, %v, want %v, %v", len(s.Order), g, e, want, wantError)
	}
}

func checkSince(t *testing.T, s api.Store, version int, want []api.ID, wantError api.Errno) {
	t.Helper()
	if l, e := store.Since(s, version); e != wantError || !slices.Equal(l, want) {
		t.Errorf("Since %d of %d operations = %x, %v, want %x, %v", version, len(s.Order), l, e, want, wantError)
	}
}

// checkRefused fails unless each function has ErrBad for a store, with zero values, whatever else it is given.
func checkRefused(t *testing.T, name string, s api.Store) {
	t.Helper()
	checkStore(t, name, s, api.ErrBad)
	for _, id := range slices.Concat(s.Order[:min(len(s.Order), 1)], s.Shards.Heads[:min(len(s.Shards.Heads), 1)], otherIDs()[:1]) {
		checkHas(t, s, id, false, api.ErrBad)
	}
	first := made(0)
	for _, o := range []api.Op{first.o, made(901, made(902)).o, unsigned(first.o), {Preds: make([]api.ID, maxPreds+1)}} {
		checkMissing(t, name, s, o, nil, api.ErrBad)
		checkOffer(t, name, s, o, api.Store{}, 0, api.ErrBad)
		checkRun(t, name, s, []api.Op{made(1, first).o, o}, api.Store{}, nil, api.ErrBad)
	}
	checkRun(t, name, s, nil, api.Store{}, nil, api.ErrBad)
	checkRun(t, name, s, make([]api.Op, maxList+1), api.Store{}, nil, api.ErrBad)
	checkGraph(t, s, api.Graph{}, api.ErrBad)
	for _, version := range []int{0, 1, len(s.Order), len(s.Order) + 1, -1} {
		checkSince(t, s, version, nil, api.ErrBad)
	}
}

// unsigned is an operation with a signature that is not right.
func unsigned(o api.Op) api.Op {
	o = copyOp(o)
	o.Sig.S = (o.Sig.S + 1) % exponents
	return o
}

// faulty is an operation with the error that op.Verify has for it.
type faulty struct {
	name string
	o    api.Op
	want api.Errno
}

// faultyOps are operations that are not valid, or not signed, each one made of o by one change.
func faultyOps(o api.Op) []faulty {
	var l []faulty
	put := func(name string, want api.Errno, change func(o *api.Op)) {
		changed := copyOp(o)
		change(&changed)
		l = append(l, faulty{name, changed, want})
	}
	five := slices.SortedFunc(slices.Values(idsOf(alone(5))), compare)
	put("too many predecessors", api.ErrMany, func(o *api.Op) { o.Preds = five })
	put("equal predecessors", api.ErrOrder, func(o *api.Op) { o.Preds = []api.ID{five[0], five[0]} })
	put("falling predecessors", api.ErrOrder, func(o *api.Op) { o.Preds = []api.ID{five[1], five[0]} })
	put("an author that is not in the group", api.ErrBad, func(o *api.Op) { o.Author = 5 })
	put("a late stamp", api.ErrBad, func(o *api.Op) { o.Stamp = maxStamp + 1 })
	put("no act", api.ErrBad, func(o *api.Op) { o.Act = api.Act{} })
	put("no key", api.ErrBad, func(o *api.Op) { o.Act = add("") })
	put("no value", api.ErrBad, func(o *api.Op) { o.Act = set("x", api.Value{}) })
	put("no exponent", api.ErrBad, func(o *api.Op) { o.Sig.S = exponents })
	put("no signature", api.ErrFalse, func(o *api.Op) { o.Sig = api.Sig{} })
	put("another E", api.ErrFalse, func(o *api.Op) { o.Sig.E = (o.Sig.E + 1) % exponents })
	put("another S", api.ErrFalse, func(o *api.Op) { o.Sig.S = (o.Sig.S + 1) % exponents })
	put("another stamp", api.ErrFalse, func(o *api.Op) { o.Stamp++ })
	put("another act", api.ErrFalse, func(o *api.Op) { o.Act = add("other") })
	put("other predecessors", api.ErrFalse, func(o *api.Op) { o.Preds = []api.ID{{1, 2, 3}} })
	other, _ := op.Sign(77, o)
	put("another author", api.ErrFalse, func(o *api.Op) { o.Author = other.Author })
	put("the signature of another author", api.ErrFalse, func(o *api.Op) { o.Sig = other.Sig })
	return l
}
