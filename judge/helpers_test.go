package judge_test

import (
	"bytes"
	"crypto/sha256"
	"encoding/binary"
	"fmt"
	"math/big"
	"slices"
	"strings"
	"testing"

	"braid/api"
	"braid/judge"
)

// The verdicts and limits, written out as the chapters have them.
const (
	fine      = 0
	malformed = 2
	tooLarge  = 3
	badSig    = 4

	maxBytes = 400
	maxList  = 60
	maxPreds = 4
	maxStamp = 1000000000000

	modulus = 1000000007
	order   = 500000003
)

var (
	bigP = big.NewInt(modulus)
	bigQ = big.NewInt(order)
)

// secrets returns secrets, the least and the greatest ones among them.
func secrets() []uint32 {
	return []uint32{1, 2, 5, 77, 65536, 123456789, order - 2, order - 1}
}

// ids returns n ids that increase strictly; n is at most 256.
func ids(n int) []api.ID {
	l := make([]api.ID, n)
	for i := range l {
		l[i] = sha256.Sum256([]byte{byte(i)})
		l[i][0] = byte(i)
	}
	return l
}

func num(n int64) api.Value               { return api.Value{Kind: api.ValNumber, Num: n} }
func flt(b uint64) api.Value              { return api.Value{Kind: api.ValFloat, Bits: b} }
func text(s string) api.Value             { return api.Value{Kind: api.ValText, Text: s} }
func none() api.Act                       { return api.Act{Kind: api.ActNone} }
func add(key string) api.Act              { return api.Act{Kind: api.ActAdd, Key: key} }
func remove(key string) api.Act           { return api.Act{Kind: api.ActRemove, Key: key} }
func set(key string, v api.Value) api.Act { return api.Act{Kind: api.ActSet, Key: key, Value: v} }

// acts returns valid acts of each kind.
func acts() []api.Act {
	long := strings.Repeat("k", 20)
	return []api.Act{
		none(), add("a"), add(long), remove("!~"), remove(long),
		set("x", num(0)), set("x", num(-200)), set(long, num(1<<63-1)), set("x", num(-1<<63)),
		set("x", flt(0)), set("x", flt(1<<63)), set(long, flt(0x7ff8000000000000)),
		set("x", text("")), set("x", text("a b")), set(long, text(strings.Repeat("t", 30))),
	}
}

// plainOps returns valid operations, which have no author and are not signed: acts of each kind behind 0, 1 and more predecessors.
func plainOps() []api.Op {
	var l []api.Op
	for i, a := range acts() {
		for n := range maxPreds + 1 {
			stamp := []uint64{0, 7, 248, 1 << 32, maxStamp}[(i+n)%5]
			l = append(l, api.Op{Preds: ids(n), Stamp: stamp, Act: a})
		}
	}
	return l
}

// someOps returns signed operations: one for each kind of act, with 0, 1, 2 and MaxPreds predecessors, the longest one last.
func someOps() []api.Op {
	long := api.Op{Preds: ids(maxPreds), Stamp: maxStamp, Act: set(strings.Repeat("k", 20), text(strings.Repeat("t", 30)))}
	return []api.Op{
		wantSigned(5, api.Op{Stamp: 7, Act: none()}),
		wantSigned(2, api.Op{Preds: ids(1), Stamp: 300, Act: add("a")}),
		wantSigned(77, api.Op{Preds: ids(2), Act: remove("!~")}),
		wantSigned(order-1, api.Op{Preds: ids(maxPreds), Stamp: 8, Act: set("x", num(-200))}),
		wantSigned(123456789, api.Op{Stamp: maxStamp, Act: set("key", flt(0x3ff8000000000000))}),
		wantSigned(65536, long),
	}
}

// wantNumber is the bytes of a number: its eight bytes without the zeros before them.
func wantNumber(n uint64) []byte {
	if n <= 247 {
		return []byte{byte(n)}
	}
	cut := bytes.TrimLeft(binary.BigEndian.AppendUint64(nil, n), "\x00")
	return append([]byte{byte(247 + len(cut))}, cut...)
}

func wantString(s string) []byte {
	return append(wantNumber(uint64(len(s))), s...)
}

// wantIDs is the bytes of ids, whatever their order is.
func wantIDs(l []api.ID) []byte {
	b := wantNumber(uint64(len(l)))
	for _, id := range l {
		b = append(b, id[:]...)
	}
	return b
}

// wantValue is the bytes of a value of one of the kinds.
func wantValue(v api.Value) []byte {
	switch v.Kind {
	case api.ValNumber:
		fold := new(big.Int).Mul(big.NewInt(v.Num), big.NewInt(2))
		if v.Num < 0 {
			fold.Sub(fold.Neg(fold), big.NewInt(1))
		}
		return append([]byte{1}, wantNumber(fold.Uint64())...)
	case api.ValFloat:
		return binary.BigEndian.AppendUint64([]byte{2}, v.Bits)
	}
	return append([]byte{v.Kind}, wantString(v.Text)...)
}

// wantMessage is the message of an operation, which need not be valid.
func wantMessage(o api.Op) []byte {
	b := slices.Concat([]byte{111}, wantNumber(uint64(o.Author)), wantIDs(o.Preds), wantNumber(o.Stamp), []byte{o.Act.Kind})
	if o.Act.Kind != api.ActNone {
		b = append(b, wantString(o.Act.Key)...)
	}
	if o.Act.Kind == api.ActSet {
		b = append(b, wantValue(o.Act.Value)...)
	}
	return b
}

// wantBytes is the bytes of an operation, which need not be valid.
func wantBytes(o api.Op) []byte {
	return behind(wantMessage(o), o.Sig)
}

// behind is some bytes with those of a signature behind them.
func behind(b []byte, s api.Sig) []byte {
	return slices.Concat(b, wantNumber(uint64(s.E)), wantNumber(uint64(s.S)))
}

// numberOf is the number of a digest.
func numberOf(mark byte, m []byte, numbers ...uint32) *big.Int {
	b := []byte{mark}
	for _, x := range numbers {
		b = binary.BigEndian.AppendUint32(b, x)
	}
	sum := sha256.Sum256(append(b, m...))
	return new(big.Int).SetBytes(sum[:8])
}

func wantPower(a uint32, n uint64) uint32 {
	x := new(big.Int).SetUint64(n)
	return uint32(x.Exp(big.NewInt(int64(a)), x, bigP).Uint64())
}

func wantChallenge(r, public uint32, m []byte) uint32 {
	n := numberOf('c', m, r, public)
	return uint32(n.Mod(n, bigQ).Uint64())
}

// sigWith is the signature with a number in the place of the nonce; with the secret 0 it is one for the public key 1.
func sigWith(k uint64, secret uint32, m []byte) api.Sig {
	e := wantChallenge(wantPower(4, k), wantPower(4, uint64(secret)), m)
	s := new(big.Int).Mul(big.NewInt(int64(e)), big.NewInt(int64(secret)))
	s.Add(s, new(big.Int).SetUint64(k))
	return api.Sig{E: e, S: uint32(s.Mod(s, bigQ).Uint64())}
}

// wantSig is the signature of a message by a secret.
func wantSig(secret uint32, m []byte) api.Sig {
	n := numberOf('n', m, secret)
	return sigWith(n.Mod(n, big.NewInt(order-1)).Uint64()+1, secret, m)
}

// wantSigned is an operation with the public key of a secret, signed by it, whether it is valid or not.
func wantSigned(secret uint32, o api.Op) api.Op {
	o.Author = wantPower(4, uint64(secret))
	o.Sig = wantSig(secret, wantMessage(o))
	return o
}

// isRight reports whether the signature of an operation is right for its message.
func isRight(o api.Op) bool {
	y := big.NewInt(int64(o.Author))
	y.Exp(y, big.NewInt(int64(o.Sig.E)), bigP)
	r := y.ModInverse(y, bigP)
	r.Mul(r, big.NewInt(int64(wantPower(4, uint64(o.Sig.S)))))
	return o.Sig.E == wantChallenge(uint32(r.Mod(r, bigP).Uint64()), o.Author, wantMessage(o))
}

// wantOf is what Of has to return for some bytes, by a judge of its own.
func wantOf(b []byte) (api.Op, api.ID, uint8) {
	if len(b) > maxBytes {
		return api.Op{}, api.ID{}, tooLarge
	}
	o, ok := wantRead(b)
	if !ok {
		return api.Op{}, api.ID{}, malformed
	}
	if !isRight(o) {
		return api.Op{}, api.ID{}, badSig
	}
	return o, sha256.Sum256(b), fine
}

// same reports whether two operations are equal, as R3 compares them.
func same(a, b api.Op) bool {
	return a.Author == b.Author && slices.Equal(a.Preds, b.Preds) && a.Stamp == b.Stamp && a.Act == b.Act && a.Sig == b.Sig
}

// some tells bytes, and only the first of very many.
func some(b []byte) string {
	return fmt.Sprintf("%d bytes, %v ..", len(b), b[:min(len(b), 250)])
}

// checkVerdict fails unless bytes have a verdict, whichever function is asked, and nothing but this where they are not fine.
func checkVerdict(t *testing.T, b []byte, want uint8) {
	t.Helper()
	o, id, verdict := judge.Of(b)
	if verdict != want {
		t.Errorf("the verdict on %s is %d, want %d", some(b), verdict, want)
	}
	if want != fine && (!same(o, api.Op{}) || id != api.ID{}) {
		t.Errorf("%s have %v with the id %x", some(b), o, id)
	}
	if judge.Fine(b) != (want == fine) {
		t.Errorf("Fine of %s = %v", some(b), judge.Fine(b))
	}
	if l, e := judge.Many([][]byte{b}); e != api.OK || !slices.Equal(l, []uint8{want}) {
		t.Errorf("Many of %s = %v, %v, want %d", some(b), l, e, want)
	}
	counts := [10]int{}
	counts[want] = 1
	if n, e := judge.Count([][]byte{b}); e != api.OK || n != counts {
		t.Errorf("Count of %s = %v, %v, want %v", some(b), n, e, counts)
	}
}

// checkFine fails unless bytes are fine and have an operation, with their digest as its id.
func checkFine(t *testing.T, b []byte, want api.Op) {
	t.Helper()
	checkVerdict(t, b, fine)
	o, id, _ := judge.Of(b)
	if !same(o, want) {
		t.Errorf("%s have %v, want %v", some(b), o, want)
	}
	if id != sha256.Sum256(b) {
		t.Errorf("%s have the id %x", some(b), id)
	}
}

// checkLike fails unless Of finds what the judge of wantOf does, which it returns.
func checkLike(t *testing.T, b []byte) uint8 {
	t.Helper()
	o, id, verdict := judge.Of(b)
	wantO, wantID, want := wantOf(b)
	if verdict != want || id != wantID || !same(o, wantO) {
		t.Errorf("Of %s = %v, %x, %d, want %v, %x, %d", some(b), o, id, verdict, wantO, wantID, want)
	}
	return want
}
