package ancestry_test

import (
	"bytes"
	"crypto/sha256"
	"math/rand"
	"slices"
	"strings"
	"testing"

	"braid/ancestry"
	"braid/api"
	"braid/op"
)

const (
	maxList   = 60
	maxPreds  = 4
	maxStamp  = 1000000000000
	exponents = 500000003
)

// node is a signed operation with its id.
type node struct {
	o  api.Op
	id api.ID
}

func num(n int64) api.Value               { return api.Value{Kind: api.ValNumber, Num: n} }
func flt(b uint64) api.Value              { return api.Value{Kind: api.ValFloat, Bits: b} }
func text(s string) api.Value             { return api.Value{Kind: api.ValText, Text: s} }
func none() api.Act                       { return api.Act{Kind: api.ActNone} }
func add(key string) api.Act              { return api.Act{Kind: api.ActAdd, Key: key} }
func remove(key string) api.Act           { return api.Act{Kind: api.ActRemove, Key: key} }
func set(key string, v api.Value) api.Act { return api.Act{Kind: api.ActSet, Key: key, Value: v} }

// signed is an operation signed by a secret, behind some others.
func signed(secret uint32, o api.Op, preds ...node) node {
	o.Preds = idsOf(preds)
	slices.SortFunc(o.Preds, compare)
	o, e := op.Sign(secret, o)
	if e != api.OK {
		panic("an operation of the tests is not valid")
	}
	return named(o)
}

// named is a valid operation with its id.
func named(o api.Op) node {
	b, e := op.Encode(o)
	if e != api.OK {
		panic("an operation of the tests is not valid")
	}
	return node{o, sha256.Sum256(b)}
}

func compare(a, b api.ID) int {
	return bytes.Compare(a[:], b[:])
}

// made is the operation i of some, behind others: acts, authors and stamps differ from one to the next.
func made(i int, preds ...node) node {
	acts := []api.Act{none(), add("a"), remove("a"), set("x", num(-7)), set("size", flt(1)), set(strings.Repeat("k", 20), text("two words"))}
	return signed(uint32(i%7+1), api.Op{Stamp: uint64(i), Act: acts[i%len(acts)]}, preds...)
}

// alone are n operations without predecessors.
func alone(n int) []node {
	var l []node
	for i := range n {
		l = append(l, made(i))
	}
	return l
}

// wide are n operations, each one behind the last few before it, if there are so many.
func wide(n, few int) []node {
	var l []node
	for i := range n {
		l = append(l, made(i, l[max(0, i-few):]...))
	}
	return l
}

func chain(n int) []node {
	return wide(n, 1)
}

// fork is one operation, and n behind it.
func fork(n int) []node {
	l := []node{made(0)}
	for i := range n {
		l = append(l, made(i+1, l[0]))
	}
	return l
}

// join is n operations without predecessors, and one behind all of them.
func join(n int) []node {
	l := alone(n)
	return append(l, made(n, l...))
}

// diamond is a, then b and c behind a, and d behind b and c.
func diamond() []node {
	l := fork(2)
	return append(l, made(3, l[1:]...))
}

// scattered are n operations, each one behind any of those before it.
func scattered(draw *rand.Rand, n int) []node {
	var l []node
	for i := range n {
		var preds []node
		for _, j := range draw.Perm(i)[:min(i, draw.Intn(maxPreds+1))] {
			preds = append(preds, l[j])
		}
		l = append(l, made(i, preds...))
	}
	return l
}

// shapes are lists of operations, each one behind its predecessors, with those of graphs as small and as great as may be.
func shapes() [][]node {
	l := [][]node{
		nil, alone(1), alone(2), alone(5), alone(maxList), chain(2), chain(3), chain(10), chain(maxList - 1), chain(maxList),
		fork(2), fork(6), fork(maxList - 1), join(1), join(2), join(3), join(maxPreds), diamond(), append(diamond(), alone(9)[7:]...),
		wide(12, 2), wide(12, maxPreds), wide(maxList, maxPreds), braided(3), braided(maxList / 3), slices.Concat(chain(8), alone(9)[1:]),
	}
	draw := rand.New(rand.NewSource(101))
	for n := range 12 {
		l = append(l, scattered(draw, n), scattered(draw, 4*n))
	}
	return append(l, scattered(draw, maxList))
}

// braided are n diamonds, each one behind the one before it.
func braided(n int) []node {
	var l []node
	for i := range n {
		a := made(3*i, l[max(0, len(l)-2):]...)
		l = append(l, a, made(3*i+1, a), made(3*i+2, a))
	}
	return l
}

// smallShapes are those of the shapes with at most 12 operations.
func smallShapes() [][]node {
	return slices.DeleteFunc(shapes(), func(l []node) bool { return len(l) > 12 })
}

func opsOf(l []node) []api.Op {
	var ops []api.Op
	for _, n := range l {
		ops = append(ops, copyOp(n.o))
	}
	return ops
}

func idsOf(l []node) []api.ID {
	var ids []api.ID
	for _, n := range l {
		ids = append(ids, n.id)
	}
	return ids
}

func copyOp(o api.Op) api.Op {
	o.Preds = slices.Clone(o.Preds)
	return o
}

// graphOf is the graph of operations, sorted by the tests themselves.
func graphOf(l []node) api.Graph {
	return inOrder(slices.SortedFunc(slices.Values(l), func(a, b node) int { return compare(a.id, b.id) }))
}

// inOrder has operations and ids as they come, which makes a valid graph only of some.
func inOrder(l []node) api.Graph {
	return api.Graph{IDs: idsOf(l), Ops: opsOf(l)}
}

// nodesOf are the operations of a graph with as many ids.
func nodesOf(g api.Graph) []node {
	var l []node
	for i := range g.Ops {
		l = append(l, node{g.Ops[i], g.IDs[i]})
	}
	return l
}

func same(a, b api.Op) bool {
	return a.Author == b.Author && slices.Equal(a.Preds, b.Preds) && a.Stamp == b.Stamp && a.Act == b.Act && a.Sig == b.Sig
}

func sameGraph(a, b api.Graph) bool {
	return slices.Equal(a.IDs, b.IDs) && slices.EqualFunc(a.Ops, b.Ops, same)
}

// otherIDs are ids that no operation of the tests has, in increasing order but for copies of an id with one bit changed.
func otherIDs(near ...api.ID) []api.ID {
	least, middle, greatest := api.ID{}, api.ID{128}, api.ID{}
	for i := range greatest {
		greatest[i] = 255
	}
	l := []api.ID{least, middle, greatest}
	for _, id := range near {
		for _, bit := range []int{0, 7, 100, 248, 255} {
			other := id
			other[bit/8] ^= 1 << (bit % 8)
			l = append(l, other)
		}
	}
	return l
}

// sorted are ids in increasing order.
func sorted(ids []api.ID) []api.ID {
	return slices.SortedFunc(slices.Values(ids), compare)
}

// mixed are ids in another order.
func mixed(draw *rand.Rand, ids []api.ID) []api.ID {
	l := slices.Clone(ids)
	draw.Shuffle(len(l), func(i, j int) { l[i], l[j] = l[j], l[i] })
	return l
}

// The check functions fail unless a function returns what is wanted; with an error all else is zero.

func checkAncestors(t *testing.T, g api.Graph, id api.ID, want []api.ID, wantError api.Errno) {
	t.Helper()
	if l, e := ancestry.Ancestors(g, id); e != wantError || !slices.Equal(l, want) {
		t.Errorf("Ancestors in %d operations of %x = %x, %v, want %x, %v", len(g.Ops), id, l, e, want, wantError)
	}
}

func checkIs(t *testing.T, g api.Graph, a, id api.ID, want bool, wantError api.Errno) {
	t.Helper()
	if is, e := ancestry.Is(g, a, id); e != wantError || is != want {
		t.Errorf("Is in %d operations of %x and %x = %v, %v, want %v, %v", len(g.Ops), a, id, is, e, want, wantError)
	}
}

func checkDepth(t *testing.T, g api.Graph, id api.ID, want int, wantError api.Errno) {
	t.Helper()
	if n, e := ancestry.Depth(g, id); e != wantError || n != want {
		t.Errorf("Depth in %d operations of %x = %d, %v, want %d, %v", len(g.Ops), id, n, e, want, wantError)
	}
}

func checkHeads(t *testing.T, g api.Graph, want []api.ID, wantError api.Errno) {
	t.Helper()
	if l, e := ancestry.Heads(g); e != wantError || !slices.Equal(l, want) {
		t.Errorf("Heads of %d operations = %x, %v, want %x, %v", len(g.Ops), l, e, want, wantError)
	}
}

func checkOrder(t *testing.T, g api.Graph, want []api.ID, wantError api.Errno) {
	t.Helper()
	if l, e := ancestry.Order(g); e != wantError || !slices.Equal(l, want) {
		t.Errorf("Order of %d operations = %x, %v, want %x, %v", len(g.Ops), l, e, want, wantError)
	}
}

func checkMissing(t *testing.T, g api.Graph, l, want []api.ID, wantError api.Errno) {
	t.Helper()
	if m, e := ancestry.Missing(g, l); e != wantError || !slices.Equal(m, want) {
		t.Errorf("Missing in %d operations of %x = %x, %v, want %x, %v", len(g.Ops), l, m, e, want, wantError)
	}
}

func checkBelow(t *testing.T, g api.Graph, l []api.ID, want []node, wantError api.Errno) {
	t.Helper()
	if h, e := ancestry.Below(g, l); e != wantError || !sameGraph(h, graphOf(want)) {
		t.Errorf("Below in %d operations of %x = %v, %v, want %v, %v", len(g.Ops), l, h, e, graphOf(want), wantError)
	}
}

// unsigned is an operation with a signature that is not right.
func unsigned(o api.Op) api.Op {
	o = copyOp(o)
	o.Sig.S = (o.Sig.S + 1) % exponents
	return o
}

// faulty is an operation with the error that op.Verify has for it.
type faulty struct {
	name string
	o    api.Op
	want api.Errno
}

// faultyOps are operations that are not valid, or not signed, each one made of o by one change.
func faultyOps(o api.Op) []faulty {
	var l []faulty
	put := func(name string, want api.Errno, change func(o *api.Op)) {
		changed := copyOp(o)
		change(&changed)
		l = append(l, faulty{name, changed, want})
	}
	five := slices.SortedFunc(slices.Values(idsOf(alone(5))), compare)
	put("too many predecessors", api.ErrMany, func(o *api.Op) { o.Preds = five })
	put("equal predecessors", api.ErrOrder, func(o *api.Op) { o.Preds = []api.ID{five[0], five[0]} })
	put("falling predecessors", api.ErrOrder, func(o *api.Op) { o.Preds = []api.ID{five[1], five[0]} })
	put("an author that is not in the group", api.ErrBad, func(o *api.Op) { o.Author = 5 })
	put("a late stamp", api.ErrBad, func(o *api.Op) { o.Stamp = maxStamp + 1 })
	put("no act", api.ErrBad, func(o *api.Op) { o.Act = api.Act{} })
	put("no key", api.ErrBad, func(o *api.Op) { o.Act = add("") })
	put("no value", api.ErrBad, func(o *api.Op) { o.Act = set("x", api.Value{}) })
	put("no exponent", api.ErrBad, func(o *api.Op) { o.Sig.S = exponents })
	put("no signature", api.ErrFalse, func(o *api.Op) { o.Sig = api.Sig{} })
	put("another E", api.ErrFalse, func(o *api.Op) { o.Sig.E = (o.Sig.E + 1) % exponents })
	put("another S", api.ErrFalse, func(o *api.Op) { o.Sig.S = (o.Sig.S + 1) % exponents })
	put("another stamp", api.ErrFalse, func(o *api.Op) { o.Stamp++ })
	put("another act", api.ErrFalse, func(o *api.Op) { o.Act = add("other") })
	put("other predecessors", api.ErrFalse, func(o *api.Op) { o.Preds = []api.ID{{1, 2, 3}} })
	other, _ := op.Sign(77, o)
	put("another author", api.ErrFalse, func(o *api.Op) { o.Author = other.Author })
	put("the signature of another author", api.ErrFalse, func(o *api.Op) { o.Sig = other.Sig })
	return l
}
