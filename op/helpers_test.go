package op_test

import (
	"bytes"
	"crypto/sha256"
	"encoding/binary"
	"fmt"
	"math"
	"math/big"
	"slices"
	"strings"
	"testing"

	"braid/api"
	"braid/op"
)

const (
	modulus  = api.GroupP
	order    = api.GroupQ
	maxStamp = 1000000000000
	longest  = 205 // bytes of the operations with the most
)

var (
	bigP = big.NewInt(modulus)
	bigQ = big.NewInt(order)
)

// secrets returns secrets, the least and the greatest ones among them.
func secrets() []uint32 {
	return []uint32{1, 2, 5, 77, 65536, 123456789, order - 2, order - 1}
}

// noSecrets returns numbers that are no secrets.
func noSecrets() []uint32 {
	return []uint32{0, order, order + 1, order + 2, 2 * order, 2*order + 1, modulus, math.MaxInt32, math.MaxUint32}
}

// authors returns numbers of the group, with from one to five bytes.
func authors() []uint32 {
	return []uint32{1, 2, 3, 4, 16, 247, 248, 255, 256, 16384, 65536, 1 << 24, 250000002, modulus - 5}
}

// strangers returns numbers that are not in the group; the remainders of some of them are.
func strangers() []uint32 {
	return []uint32{0, 5, 10, modulus - 1, modulus - 4, modulus, modulus + 1, modulus + 4, 2*modulus + 4, 4*modulus + 16, math.MaxInt32, math.MaxUint32}
}

// noExponents returns numbers that are no exponents.
func noExponents() []uint32 {
	return []uint32{order, order + 1, order + 5, 2 * order, modulus, math.MaxInt32, math.MaxUint32}
}

// signatures returns pairs of exponents, right for nothing that is known.
func signatures() []api.Sig {
	return []api.Sig{{}, {E: 5, S: 6}, {E: 0, S: 1}, {E: 1, S: 0}, {E: 247, S: 248}, {E: 255, S: 256}, {E: 65536, S: 247}, {E: order - 1}, {S: order - 1}, {E: order - 1, S: order - 1}}
}

// stamps returns stamps at the ends of each length, the greatest one among them.
func stamps() []uint64 {
	return []uint64{0, 1, 7, 247, 248, 255, 256, 300, 65535, 65536, 1<<24 - 1, 1 << 24, 1<<32 - 1, 1 << 32, 1<<32 + 7, maxStamp - 1, maxStamp}
}

// noStamps returns numbers that are more than a stamp may be.
func noStamps() []uint64 {
	return []uint64{maxStamp + 1, maxStamp + 7, 1 << 40, 1<<63 - 1, 1 << 63, 1<<63 + 7, math.MaxUint64}
}

// ids returns n ids that increase strictly; n is at most 256.
func ids(n int) []api.ID {
	l := make([]api.ID, n)
	for i := range l {
		l[i] = sha256.Sum256([]byte{byte(i)})
		l[i][0] = byte(i)
		l[i][31] = byte(255 - i)
	}
	return l
}

// fineLists returns lists of ids that an operation may have before it.
func fineLists() [][]api.ID {
	var least, second, greatest, nearly api.ID
	second[31] = 1
	for i := range greatest {
		greatest[i], nearly[i] = 255, 255
	}
	nearly[31] = 254
	return [][]api.ID{
		nil, {}, ids(1), ids(2), ids(3), ids(4), ids(9)[5:], ids(256)[252:],
		{least}, {greatest}, {least, second}, {nearly, greatest}, {least, second, nearly, greatest},
	}
}

// disorders returns lists of from two to four ids that do not increase strictly.
func disorders() [][]api.ID {
	var l [][]api.ID
	for n := 2; n <= 4; n++ {
		for i := range n - 1 {
			same, swapped, late := ids(n), ids(n), ids(n)
			same[i+1] = same[i]
			swapped[i], swapped[i+1] = swapped[i+1], swapped[i]
			// Only the last byte is less, behind 31 equal ones.
			late[i][31], late[i+1] = 9, late[i]
			late[i+1][31] = 8
			l = append(l, same, swapped, late)
		}
		down := ids(n)
		slices.Reverse(down)
		l = append(l, down, make([]api.ID, n))
	}
	// Two ids that are equal, or fall, but are no neighbours, make others fall.
	return append(l, []api.ID{ids(3)[0], ids(3)[1], ids(3)[0]}, []api.ID{ids(3)[1], ids(3)[2], ids(3)[0], ids(4)[3]})
}

// longLists returns lists of more than MaxPreds ids, in order and not.
func longLists() [][]api.ID {
	var l [][]api.ID
	for _, n := range []int{5, 6, 60, 61, 256} {
		down := ids(n)
		slices.Reverse(down)
		l = append(l, ids(n), down, make([]api.ID, n))
	}
	return append(l, make([]api.ID, 100000))
}

// fineKeys returns keys of from 1 to MaxKey bytes, with each byte that a key may have.
func fineKeys() []string {
	l := []string{"a", "ab", "key", "!", "~", "!~", strings.Repeat("!", 20), strings.Repeat("~", 20), strings.Repeat("k", 19)}
	for c := byte(33); c <= 126; c++ {
		s := string([]byte{c})
		l = append(l, s, "x"+s, s+"xy", strings.Repeat("z", 19)+s)
	}
	slices.Sort(l)
	return slices.Compact(l)
}

// badKeys returns keys that are too short, too long, or have a byte that is not allowed.
func badKeys() []string {
	l := []string{"", "é", "a\u00a0b", "a b", " ", "line\n"}
	for c := range 256 {
		if c >= 33 && c <= 126 {
			continue
		}
		s := string([]byte{byte(c)})
		l = append(l, s, "a"+s, s+"a", strings.Repeat("a", 19)+s, s+strings.Repeat("a", 19), "abc"+s+"def")
	}
	for _, n := range []int{21, 22, 40, 247, 248, 256, 10000, 10001} {
		l = append(l, strings.Repeat("a", n), strings.Repeat(" ", n))
	}
	return l
}

func num(n int64) api.Value   { return api.Value{Kind: api.ValNumber, Num: n} }
func flt(b uint64) api.Value  { return api.Value{Kind: api.ValFloat, Bits: b} }
func text(s string) api.Value { return api.Value{Kind: api.ValText, Text: s} }

// plain is the bits of a float that is no number, to the base 16 as layer 5 writes them.
const plain = 0x7ff8000000000000

// fineValues returns valid values of each kind, at the ends of it.
func fineValues() []api.Value {
	return []api.Value{
		num(0), num(1), num(-1), num(-2), num(123), num(-124), num(124), num(-200), num(math.MaxInt64), num(math.MinInt64),
		flt(0), flt(1), flt(1 << 63), flt(0x3ff8000000000000), flt(plain), flt(0xfff0000000000000),
		text(""), text("a"), text(" "), text("~"), text("a b"), text(strings.Repeat("t", 30)),
	}
}

// badValues returns values that are not valid.
func badValues() []api.Value {
	return []api.Value{
		{}, {Num: 1}, {Bits: 1}, {Text: "a"}, {Kind: 4}, {Kind: 255}, {Kind: 4, Num: 1},
		{Kind: 1, Bits: 1}, {Kind: 1, Num: 1, Text: "a"}, {Kind: 2, Num: 1}, {Kind: 2, Text: "a"}, {Kind: 3, Num: 1}, {Kind: 3, Bits: plain},
		flt(plain + 1), flt(plain - 1), flt(0x7ff0000000000001), flt(plain | 1<<63), flt(math.MaxUint64),
		text("\x1f"), text("a\x7f"), text("\x80"), text("é"), text(strings.Repeat("t", 31)), text(strings.Repeat("t", 20000)),
	}
}

func none() api.Act                              { return api.Act{Kind: api.ActNone} }
func add(key string) api.Act                     { return api.Act{Kind: api.ActAdd, Key: key} }
func remove(key string) api.Act                  { return api.Act{Kind: api.ActRemove, Key: key} }
func set(key string, v api.Value) api.Act        { return api.Act{Kind: api.ActSet, Key: key, Value: v} }
func act(k uint8, s string, v api.Value) api.Act { return api.Act{Kind: k, Key: s, Value: v} }

// fineActs returns valid acts of each kind, each one once.
func fineActs() []api.Act {
	l := []api.Act{none()}
	for _, key := range fineKeys() {
		l = append(l, add(key), remove(key), set(key, num(5)))
	}
	for _, v := range fineValues() {
		l = append(l, set("x", v), set(strings.Repeat("k", 20), v))
	}
	return l
}

// badActs returns acts that are not valid.
func badActs() []api.Act {
	var l []api.Act
	some := []api.Value{{}, {Kind: 1}, {Num: 1}, {Num: -1}, {Bits: 1}, {Text: "a"}, num(1), flt(0), flt(1), text(""), text("a")}
	for kind := range 256 {
		for _, key := range []string{"", "a"} {
			for _, v := range some {
				a := act(uint8(kind), key, v)
				if !slices.Contains([]api.Act{none(), add("a"), remove("a"), set("a", num(0)), set("a", num(1)), set("a", flt(0)), set("a", flt(1)), set("a", text("")), set("a", text("a"))}, a) {
					l = append(l, a)
				}
			}
		}
	}
	for _, key := range badKeys() {
		l = append(l, add(key), remove(key), set(key, num(5)), set(key, api.Value{}))
	}
	for _, key := range append(badKeys(), fineKeys()...) {
		if key != "" {
			l = append(l, act(api.ActNone, key, api.Value{}))
		}
	}
	for _, v := range badValues() {
		l = append(l, set("x", v))
		if v != (api.Value{}) {
			l = append(l, act(api.ActNone, "", v), act(api.ActAdd, "x", v), act(api.ActRemove, "x", v))
		}
	}
	return l
}

// most is an operation with the most bytes.
func most() api.Op {
	return api.Op{Author: modulus - 5, Preds: ids(4), Stamp: maxStamp, Act: set(strings.Repeat("k", 20), text(strings.Repeat("t", 30))), Sig: api.Sig{E: order - 1, S: order - 1}}
}

// fineOps returns valid operations that differ in more than Sig.
func fineOps() []api.Op {
	var l []api.Op
	seen := map[string]bool{}
	put := func(o api.Op) {
		if key := fmt.Sprintf("%d %x %d %#v", o.Author, o.Preds, o.Stamp, o.Act); !seen[key] {
			seen[key] = true
			// Each one has another of the signatures.
			o.Sig = signatures()[len(l)%len(signatures())]
			l = append(l, o)
		}
	}
	put(most())
	for _, a := range fineActs() {
		put(api.Op{Author: 4, Stamp: 7, Act: a})
	}
	for _, author := range authors() {
		for _, preds := range fineLists() {
			put(api.Op{Author: author, Preds: preds, Act: none()})
			put(api.Op{Author: author, Preds: preds, Stamp: maxStamp, Act: set("x", num(-2))})
		}
	}
	for _, stamp := range stamps() {
		for _, a := range []api.Act{none(), add("a"), remove("a"), set("a", flt(1))} {
			put(api.Op{Author: 16, Preds: ids(2), Stamp: stamp, Act: a})
		}
	}
	return l
}

// wantNumber is the bytes of a number, by the standard library: its eight bytes without the zeros before them.
func wantNumber(n uint64) []byte {
	if n <= 247 {
		return []byte{byte(n)}
	}
	cut := bytes.TrimLeft(binary.BigEndian.AppendUint64(nil, n), "\x00")
	return append([]byte{byte(247 + len(cut))}, cut...)
}

// wantString is the bytes of a string.
func wantString(s string) []byte {
	return append(wantNumber(uint64(len(s))), s...)
}

// wantIDs is the bytes of ids, whatever their order is.
func wantIDs(l []api.ID) []byte {
	b := wantNumber(uint64(len(l)))
	for _, id := range l {
		b = append(b, id[:]...)
	}
	return b
}

// wantValue is the bytes of a value of one of the kinds.
func wantValue(v api.Value) []byte {
	switch v.Kind {
	case api.ValNumber:
		fold := new(big.Int).Mul(big.NewInt(v.Num), big.NewInt(2))
		if v.Num < 0 {
			fold.Sub(fold.Neg(fold), big.NewInt(1))
		}
		return append([]byte{1}, wantNumber(fold.Uint64())...)
	case api.ValFloat:
		return binary.BigEndian.AppendUint64([]byte{2}, v.Bits)
	}
	return append([]byte{v.Kind}, wantString(v.Text)...)
}

// The parts of the bytes of an operation.
const (
	partMark = iota
	partAuthor
	partPreds
	partStamp
	partKind
	partKey
	partValue
	partE
	partS
)

// wantParts is the parts of the bytes of an operation, which need not be valid.
func wantParts(o api.Op) [][]byte {
	l := [][]byte{{111}, wantNumber(uint64(o.Author)), wantIDs(o.Preds), wantNumber(o.Stamp), {o.Act.Kind}, nil, nil, wantNumber(uint64(o.Sig.E)), wantNumber(uint64(o.Sig.S))}
	if o.Act.Kind != api.ActNone {
		l[partKey] = wantString(o.Act.Key)
	}
	if o.Act.Kind == api.ActSet {
		l[partValue] = wantValue(o.Act.Value)
	}
	return l
}

func wantMessage(o api.Op) []byte {
	return slices.Concat(wantParts(o)[:partE]...)
}

func wantBytes(o api.Op) []byte {
	return slices.Concat(wantParts(o)...)
}

// replaced is the bytes of an operation with other bytes in the place of a part.
func replaced(o api.Op, part int, b []byte) []byte {
	l := wantParts(o)
	l[part] = b
	return slices.Concat(l...)
}

// numberOf is the number of a digest, by the standard library's digest.
func numberOf(mark byte, m []byte, numbers ...uint32) *big.Int {
	b := []byte{mark}
	for _, x := range numbers {
		b = binary.BigEndian.AppendUint32(b, x)
	}
	sum := sha256.Sum256(append(b, m...))
	return new(big.Int).SetBytes(sum[:8])
}

func wantPower(a uint32, n uint64) uint32 {
	x := new(big.Int).SetUint64(n)
	return uint32(x.Exp(big.NewInt(int64(a)), x, bigP).Uint64())
}

// wantChallenge is the challenge of layer 3.
func wantChallenge(r, public uint32, m []byte) uint32 {
	n := numberOf('c', m, r, public)
	return uint32(n.Mod(n, bigQ).Uint64())
}

// wantSig is the signature of layer 3.
func wantSig(secret uint32, m []byte) api.Sig {
	n := numberOf('n', m, secret)
	k := n.Mod(n, big.NewInt(order-1)).Uint64() + 1
	e := wantChallenge(wantPower(4, k), wantPower(4, uint64(secret)), m)
	s := new(big.Int).Mul(big.NewInt(int64(e)), big.NewInt(int64(secret)))
	s.Add(s, new(big.Int).SetUint64(k))
	return api.Sig{E: e, S: uint32(s.Mod(s, bigQ).Uint64())}
}

// wantSigned is an operation with the public key of a secret, signed by it.
func wantSigned(secret uint32, o api.Op) api.Op {
	o.Author = wantPower(4, uint64(secret))
	o.Sig = wantSig(secret, wantMessage(o))
	return o
}

// same reports whether two operations are equal, as R3 compares them.
func same(a, b api.Op) bool {
	return a.Author == b.Author && slices.Equal(a.Preds, b.Preds) && a.Stamp == b.Stamp && a.Act == b.Act && a.Sig == b.Sig
}

// isZero reports whether an operation is the zero value.
func isZero(o api.Op) bool {
	return same(o, api.Op{})
}

// The must functions fail where there is an error.

func mustMessage(t *testing.T, o api.Op) []byte {
	t.Helper()
	m, e := op.Message(o)
	if e != api.OK {
		t.Fatalf("Message(%v): %v", o, e)
	}
	return m
}

func mustEncode(t *testing.T, o api.Op) []byte {
	t.Helper()
	b, e := op.Encode(o)
	if e != api.OK {
		t.Fatalf("Encode(%v): %v", o, e)
	}
	return b
}

func mustDecode(t *testing.T, b []byte) api.Op {
	t.Helper()
	o, e := op.Decode(b)
	if e != api.OK {
		t.Fatalf("Decode(%v): %v", b, e)
	}
	return o
}

func mustSign(t *testing.T, secret uint32, o api.Op) api.Op {
	t.Helper()
	signed, e := op.Sign(secret, o)
	if e != api.OK {
		t.Fatalf("Sign(%d, %v): %v", secret, o, e)
	}
	return signed
}

// noOp fails unless no operation has just the bytes b.
func noOp(t *testing.T, b []byte) {
	t.Helper()
	if o, e := op.Decode(b); e != api.ErrForm || !isZero(o) {
		t.Errorf("Decode of %d bytes, %v .. = %s, %v", len(b), b[:min(len(b), 2*longest)], name(o), e)
	}
}

// name tells an operation, with few of its predecessors and bytes of its strings, as it may have very many.
func name(o api.Op) string {
	few := o.Preds[:min(len(o.Preds), api.MaxPreds+1)]
	key, s := o.Act.Key, o.Act.Value.Text
	o.Act.Key, o.Act.Value.Text = key[:min(len(key), 50)], s[:min(len(s), 50)]
	return fmt.Sprintf("(%d behind %d: %x .. at %d, %#v, %v)", o.Author, len(o.Preds), few, o.Stamp, o.Act, o.Sig)
}
