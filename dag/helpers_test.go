package dag_test

import (
	"bytes"
	"crypto/sha256"
	"math/rand"
	"slices"
	"strings"
	"testing"

	"braid/api"
	"braid/dag"
	"braid/op"
)

const (
	maxList  = 60
	maxPreds = 4
	maxStamp = 1000000000000
	order    = 500000003
)

// node is a signed operation with its id.
type node struct {
	o  api.Op
	id api.ID
}

func num(n int64) api.Value               { return api.Value{Kind: api.ValNumber, Num: n} }
func flt(b uint64) api.Value              { return api.Value{Kind: api.ValFloat, Bits: b} }
func text(s string) api.Value             { return api.Value{Kind: api.ValText, Text: s} }
func none() api.Act                       { return api.Act{Kind: api.ActNone} }
func add(key string) api.Act              { return api.Act{Kind: api.ActAdd, Key: key} }
func remove(key string) api.Act           { return api.Act{Kind: api.ActRemove, Key: key} }
func set(key string, v api.Value) api.Act { return api.Act{Kind: api.ActSet, Key: key, Value: v} }

// signed is an operation signed by a secret, behind some others.
func signed(secret uint32, o api.Op, preds ...node) node {
	o.Preds = idsOf(preds)
	slices.SortFunc(o.Preds, compare)
	o, e := op.Sign(secret, o)
	if e != api.OK {
		panic("an operation of the tests is not valid")
	}
	return named(o)
}

// named is a valid operation with its id.
func named(o api.Op) node {
	b, e := op.Encode(o)
	if e != api.OK {
		panic("an operation of the tests is not valid")
	}
	return node{o, sha256.Sum256(b)}
}

func compare(a, b api.ID) int {
	return bytes.Compare(a[:], b[:])
}

// made is the operation i of some, behind others: acts, authors and stamps differ from one to the next.
func made(i int, preds ...node) node {
	acts := []api.Act{none(), add("a"), remove("a"), set("x", num(-7)), set("size", flt(1)), set(strings.Repeat("k", 20), text("two words"))}
	return signed(uint32(i%7+1), api.Op{Stamp: uint64(i), Act: acts[i%len(acts)]}, preds...)
}

// alone are n operations without predecessors.
func alone(n int) []node {
	var l []node
	for i := range n {
		l = append(l, made(i))
	}
	return l
}

// wide are n operations, each one behind the last few before it, if there are so many.
func wide(n, few int) []node {
	var l []node
	for i := range n {
		l = append(l, made(i, l[max(0, i-few):]...))
	}
	return l
}

func chain(n int) []node {
	return wide(n, 1)
}

// fork is one operation, and n behind it.
func fork(n int) []node {
	l := []node{made(0)}
	for i := range n {
		l = append(l, made(i+1, l[0]))
	}
	return l
}

// join is n operations without predecessors, and one behind all of them.
func join(n int) []node {
	l := alone(n)
	return append(l, made(n, l...))
}

// diamond is a, then b and c behind a, and d behind b and c.
func diamond() []node {
	l := fork(2)
	return append(l, made(3, l[1:]...))
}

// scattered are n operations, each one behind any of those before it.
func scattered(draw *rand.Rand, n int) []node {
	var l []node
	for i := range n {
		var preds []node
		for _, j := range draw.Perm(i)[:min(i, draw.Intn(maxPreds+1))] {
			preds = append(preds, l[j])
		}
		l = append(l, made(i, preds...))
	}
	return l
}

// shapes are lists of operations, each one behind its predecessors, with those of graphs as small and as great as may be.
func shapes() [][]node {
	l := [][]node{
		nil, alone(1), alone(2), alone(5), alone(maxList), chain(2), chain(3), chain(10), chain(maxList - 1), chain(maxList),
		fork(2), fork(6), fork(maxList - 1), join(1), join(2), join(3), join(maxPreds), diamond(), append(diamond(), alone(9)[7:]...),
		wide(12, 2), wide(12, maxPreds), wide(maxList, maxPreds),
	}
	draw := rand.New(rand.NewSource(91))
	for n := range 12 {
		l = append(l, scattered(draw, n), scattered(draw, 4*n))
	}
	return append(l, scattered(draw, maxList))
}

// smallShapes are those of the shapes with at most 12 operations.
func smallShapes() [][]node {
	return slices.DeleteFunc(shapes(), func(l []node) bool { return len(l) > 12 })
}

func opsOf(l []node) []api.Op {
	var ops []api.Op
	for _, n := range l {
		ops = append(ops, copyOp(n.o))
	}
	return ops
}

func idsOf(l []node) []api.ID {
	var ids []api.ID
	for _, n := range l {
		ids = append(ids, n.id)
	}
	return ids
}

func copyOp(o api.Op) api.Op {
	o.Preds = slices.Clone(o.Preds)
	return o
}

// graphOf is the graph of operations, sorted by the tests themselves.
func graphOf(l []node) api.Graph {
	return inOrder(slices.SortedFunc(slices.Values(l), func(a, b node) int { return compare(a.id, b.id) }))
}

// inOrder has operations and ids as they come, which makes a valid graph only of some.
func inOrder(l []node) api.Graph {
	return api.Graph{IDs: idsOf(l), Ops: opsOf(l)}
}

// nodesOf are the operations of a graph with as many ids.
func nodesOf(g api.Graph) []node {
	var l []node
	for i := range g.Ops {
		l = append(l, node{g.Ops[i], g.IDs[i]})
	}
	return l
}

func same(a, b api.Op) bool {
	return a.Author == b.Author && slices.Equal(a.Preds, b.Preds) && a.Stamp == b.Stamp && a.Act == b.Act && a.Sig == b.Sig
}

func sameGraph(a, b api.Graph) bool {
	return slices.Equal(a.IDs, b.IDs) && slices.EqualFunc(a.Ops, b.Ops, same)
}

func isEmpty(g api.Graph) bool {
	return len(g.IDs) == 0 && len(g.Ops) == 0
}

// otherIDs are ids that no operation of the tests has, in increasing order but for copies of an id with one bit changed.
func otherIDs(near ...api.ID) []api.ID {
	least, middle, greatest := api.ID{}, api.ID{128}, api.ID{}
	for i := range greatest {
		greatest[i] = 255
	}
	l := []api.ID{least, middle, greatest}
	for _, id := range near {
		for _, bit := range []int{0, 7, 100, 248, 255} {
			other := id
			other[bit/8] ^= 1 << (bit % 8)
			l = append(l, other)
		}
	}
	return l
}

// The must functions fail where there is an error.

func mustOf(t *testing.T, l []api.Op) api.Graph {
	t.Helper()
	g, e := dag.Of(l)
	if e != api.OK {
		t.Fatalf("Of %d operations: %v", len(l), e)
	}
	return g
}

func mustAdd(t *testing.T, g api.Graph, n node) api.Graph {
	t.Helper()
	sum, id, e := dag.Add(g, n.o)
	if e != api.OK || id != n.id {
		t.Fatalf("Add to %d operations: %x, %v", len(g.Ops), id, e)
	}
	return sum
}

func mustUnion(t *testing.T, a, b api.Graph) api.Graph {
	t.Helper()
	g, e := dag.Union(a, b)
	if e != api.OK {
		t.Fatalf("Union of %d and %d operations: %v", len(a.Ops), len(b.Ops), e)
	}
	return g
}

// checkGraph fails unless a graph is the one of some operations.
func checkGraph(t *testing.T, g api.Graph, l []node) {
	t.Helper()
	if want := graphOf(l); !sameGraph(g, want) {
		t.Errorf("there are %d ids and %d operations\n%v, want\n%v", len(g.IDs), len(g.Ops), g, want)
	}
}

// checkError fails unless Check has an error for a graph.
func checkError(t *testing.T, name string, g api.Graph, want api.Errno) {
	t.Helper()
	if e := dag.Check(g); e != want {
		t.Errorf("%s: Check = %v, want %v", name, e, want)
	}
}

// checkRefused fails unless each function has an error for a graph, with zero values, on either side.
func checkRefused(t *testing.T, name string, g api.Graph, want api.Errno) {
	t.Helper()
	checkError(t, name, g, want)
	good := chain(3)
	for _, id := range append(otherIDs(good[0].id), g.IDs[:min(len(g.IDs), 3)]...) {
		if has, e := dag.Has(g, id); e != want || has {
			t.Errorf("%s: Has = %v, %v, want %v", name, has, e, want)
		}
		if o, e := dag.Get(g, id); e != want || !same(o, api.Op{}) {
			t.Errorf("%s: Get = %v, %v, want %v", name, o, e, want)
		}
	}
	for _, o := range append(opsOf(good), api.Op{}, unsigned(good[0].o), api.Op{Preds: make([]api.ID, 5)}) {
		if h, id, e := dag.Add(g, o); e != want || !isEmpty(h) || id != (api.ID{}) {
			t.Errorf("%s: Add = %v, %x, %v, want %v", name, h, id, e, want)
		}
	}
	for _, other := range []api.Graph{g, dag.New(), graphOf(good)} {
		checkPair(t, name, g, other, want)
		checkPair(t, name, other, g, want)
	}
}

// checkPair fails unless Union and Equal have an error, with zero values.
func checkPair(t *testing.T, name string, a, b api.Graph, want api.Errno) {
	t.Helper()
	if g, e := dag.Union(a, b); e != want || !isEmpty(g) {
		t.Errorf("%s: Union = %v, %v, want %v", name, g, e, want)
	}
	if equal, e := dag.Equal(a, b); e != want || equal {
		t.Errorf("%s: Equal = %v, %v, want %v", name, equal, e, want)
	}
}

// unsigned is an operation with a signature that is not right.
func unsigned(o api.Op) api.Op {
	o = copyOp(o)
	o.Sig.S = (o.Sig.S + 1) % order
	return o
}

// faulty is an operation with the error that op.Verify has for it.
type faulty struct {
	name string
	o    api.Op
	want api.Errno
}

// faultyOps are operations that are not valid, or not signed, each one made of o by one change.
func faultyOps(o api.Op) []faulty {
	var l []faulty
	put := func(name string, want api.Errno, change func(o *api.Op)) {
		changed := copyOp(o)
		change(&changed)
		l = append(l, faulty{name, changed, want})
	}
	five := slices.SortedFunc(slices.Values(idsOf(alone(5))), compare)
	put("too many predecessors", api.ErrMany, func(o *api.Op) { o.Preds = five })
	put("equal predecessors", api.ErrOrder, func(o *api.Op) { o.Preds = []api.ID{five[0], five[0]} })
	put("falling predecessors", api.ErrOrder, func(o *api.Op) { o.Preds = []api.ID{five[1], five[0]} })
	put("an author that is not in the group", api.ErrBad, func(o *api.Op) { o.Author = 5 })
	put("a late stamp", api.ErrBad, func(o *api.Op) { o.Stamp = maxStamp + 1 })
	put("no act", api.ErrBad, func(o *api.Op) { o.Act = api.Act{} })
	put("no key", api.ErrBad, func(o *api.Op) { o.Act = add("") })
	put("no value", api.ErrBad, func(o *api.Op) { o.Act = set("x", api.Value{}) })
	put("no exponent", api.ErrBad, func(o *api.Op) { o.Sig.S = order })
	put("no signature", api.ErrFalse, func(o *api.Op) { o.Sig = api.Sig{} })
	put("another E", api.ErrFalse, func(o *api.Op) { o.Sig.E = (o.Sig.E + 1) % order })
	put("another S", api.ErrFalse, func(o *api.Op) { o.Sig.S = (o.Sig.S + 1) % order })
	put("another stamp", api.ErrFalse, func(o *api.Op) { o.Stamp++ })
	put("another act", api.ErrFalse, func(o *api.Op) { o.Act = add("other") })
	put("other predecessors", api.ErrFalse, func(o *api.Op) { o.Preds = []api.ID{{1, 2, 3}} })
	other, _ := op.Sign(77, o)
	put("another author", api.ErrFalse, func(o *api.Op) { o.Author = other.Author })
	put("the signature of another author", api.ErrFalse, func(o *api.Op) { o.Sig = other.Sig })
	return l
}
