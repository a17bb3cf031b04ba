package op_test

import (
	"bytes"
	"crypto/sha256"
	"math"
	"math/big"
	"slices"
	"strings"
	"testing"

	"braid/api"
	"braid/op"
)

// P6.3: each operation is read back from its bytes.
func TestDecode(t *testing.T) {
	for _, o := range fineOps() {
		if got := mustDecode(t, wantBytes(o)); !same(got, o) {
			t.Errorf("Decode of the bytes of %v = %v", o, got)
		}
	}
	for _, s := range signatures() {
		o := most()
		o.Sig = s
		if got := mustDecode(t, wantBytes(o)); !same(got, o) {
			t.Errorf("Decode with %v = %v", s, got)
		}
	}
}

// someOps returns a few operations with acts of each kind.
func someOps() []api.Op {
	l := []api.Op{most()}
	for _, c := range known() {
		l = append(l, c.o)
	}
	return append(l, api.Op{Author: 4, Preds: ids(3), Stamp: 300, Act: set("k", num(-200))})
}

// P6.3: no operation has bytes that are cut anywhere; the rest stands up to the capacity, and is not looked at.
func TestDecodeCut(t *testing.T) {
	noOp(t, nil)
	noOp(t, []byte{})
	for _, o := range fineOps() {
		b := wantBytes(o)
		for i := range b {
			noOp(t, b[:i])
			noOp(t, b[i+1:])
		}
	}
	for _, o := range someOps() {
		b := wantBytes(o)
		for i := range b {
			noOp(t, bytes.Clone(b[:i]))
		}
	}
}

// P6.3: no operation has the bytes of one with others behind them, or before them.
func TestDecodeBehind(t *testing.T) {
	for _, o := range fineOps() {
		b := wantBytes(o)
		for _, tail := range [][]byte{{0}, {1}, {111}, {255}, {0, 0}, {5, 6}, b, make([]byte, 400)} {
			noOp(t, slices.Concat(b, tail))
		}
		noOp(t, slices.Concat([]byte{0}, b))
		noOp(t, slices.Concat([]byte{111}, b))
	}
}

// P6.3: no operation has more than MaxOpBytes bytes, however they begin.
func TestDecodeLong(t *testing.T) {
	for _, n := range []int{longest + 1, 400, 401, 2000, 200000, 10000000} {
		noOp(t, make([]byte, n))
		noOp(t, bytes.Repeat([]byte{111}, n))
		noOp(t, bytes.Repeat([]byte{255}, n))
		b := make([]byte, n)
		copy(b, wantBytes(most()))
		noOp(t, b)
	}
	// Counts that no memory has.
	for _, n := range []uint64{5, 21, 247, 248, 1 << 16, 1 << 32, 1 << 58, 1 << 59, 1<<59 + 4, 1 << 63, 1<<64 - 1} {
		for _, o := range someOps() {
			tail := bytes.Repeat([]byte{97}, 400)
			noOp(t, replaced(o, partPreds, append(wantNumber(n), tail...)))
			noOp(t, replaced(o, partKey, append(wantNumber(n), tail...)))
			noOp(t, replaced(o, partValue, slices.Concat([]byte{3}, wantNumber(n), tail)))
		}
	}
}

// P6.3: the bytes of an operation begin with 111.
func TestDecodeFirstByte(t *testing.T) {
	for _, o := range someOps() {
		noOp(t, replaced(o, partMark, nil))
		for c := range 256 {
			b := replaced(o, partMark, []byte{byte(c)})
			if c != 111 {
				noOp(t, b)
			} else if got := mustDecode(t, b); !same(got, o) {
				t.Errorf("Decode(%v) = %v", b, got)
			}
		}
	}
}

// longer returns all bytes that stand for n and are too long for it.
func longer(n uint64) [][]byte {
	eight := []byte{byte(n >> 56), byte(n >> 48), byte(n >> 40), byte(n >> 32), byte(n >> 24), byte(n >> 16), byte(n >> 8), byte(n)}
	var l [][]byte
	for k := max(1, len(wantNumber(n))); k <= 8; k++ {
		l = append(l, append([]byte{byte(247 + k)}, eight[8-k:]...))
	}
	return l
}

// P6.3: each number has its shortest bytes.
func TestDecodeTooLong(t *testing.T) {
	for _, o := range someOps() {
		for part, n := range map[int]uint64{partAuthor: uint64(o.Author), partStamp: o.Stamp, partE: uint64(o.Sig.E), partS: uint64(o.Sig.S)} {
			for _, b := range longer(n) {
				noOp(t, replaced(o, part, b))
			}
		}
		for _, b := range longer(uint64(len(o.Preds))) {
			noOp(t, replaced(o, partPreds, append(b, wantIDs(o.Preds)[1:]...)))
		}
		if o.Act.Kind != api.ActNone {
			for _, b := range longer(uint64(len(o.Act.Key))) {
				noOp(t, replaced(o, partKey, append(b, o.Act.Key...)))
			}
		}
	}
	o := api.Op{Author: 4, Act: set("x", text("hi"))}
	for _, b := range longer(2) {
		noOp(t, replaced(o, partValue, slices.Concat([]byte{3}, b, []byte("hi"))))
	}
	for _, b := range longer(4) {
		noOp(t, replaced(o, partValue, append([]byte{1}, b...)))
	}
}

// P6.3: authors that are not in the group, E and S that are no exponents, and stamps of more than MaxStamp are those of no operation, also where their lowest bits, or their remainders, are.
func TestDecodeNumbers(t *testing.T) {
	for _, o := range someOps() {
		for i := range uint64(64) {
			if i < 32 {
				continue
			}
			noOp(t, replaced(o, partAuthor, wantNumber(uint64(o.Author)+1<<i)))
			noOp(t, replaced(o, partE, wantNumber(uint64(o.Sig.E)+1<<i)))
			noOp(t, replaced(o, partS, wantNumber(uint64(o.Sig.S)+1<<i)))
		}
		for _, n := range strangers() {
			noOp(t, replaced(o, partAuthor, wantNumber(uint64(n))))
		}
		for i := uint64(1); i < 8; i++ {
			noOp(t, replaced(o, partAuthor, wantNumber(uint64(o.Author)+i*modulus)))
			noOp(t, replaced(o, partE, wantNumber(uint64(o.Sig.E)+i*order)))
			noOp(t, replaced(o, partS, wantNumber(uint64(o.Sig.S)+i*order)))
		}
		for _, n := range append(noExponents(), math.MaxUint32) {
			noOp(t, replaced(o, partE, wantNumber(uint64(n))))
			noOp(t, replaced(o, partS, wantNumber(uint64(n))))
		}
		for _, n := range noStamps() {
			noOp(t, replaced(o, partStamp, wantNumber(n)))
		}
		for _, part := range []int{partAuthor, partE, partS} {
			noOp(t, replaced(o, part, wantNumber(math.MaxUint64)))
			noOp(t, replaced(o, part, wantNumber(1<<32)))
		}
	}
}

// P6.3: the list of predecessors has at most MaxPreds ids that increase strictly.
func TestDecodePreds(t *testing.T) {
	for _, o := range someOps() {
		for _, l := range fineLists() {
			o.Preds = l
			if got := mustDecode(t, wantBytes(o)); !same(got, o) {
				t.Errorf("Decode of %x = %x", l, got.Preds)
			}
		}
		for _, l := range slices.Concat(disorders(), longLists()) {
			noOp(t, replaced(o, partPreds, wantIDs(l)))
		}
	}
}

// P6.3: kinds that there are not, keys and values that are not valid are those of no operation.
func TestDecodeActs(t *testing.T) {
	for _, o := range someOps() {
		for kind := range 256 {
			if kind < 1 || kind > 4 {
				noOp(t, replaced(o, partKind, []byte{byte(kind)}))
			}
		}
		// A kind that there is, before what another one has.
		for _, kind := range []uint8{api.ActNone, api.ActAdd, api.ActSet} {
			if kind != o.Act.Kind && (kind != api.ActAdd || o.Act.Kind != api.ActRemove) {
				noOp(t, replaced(o, partKind, []byte{kind}))
			}
		}
	}
	for _, key := range badKeys() {
		for _, a := range []api.Act{add(key), remove(key), set(key, num(5))} {
			noOp(t, wantBytes(api.Op{Author: 4, Preds: ids(1), Stamp: 7, Act: a, Sig: api.Sig{E: 5, S: 6}}))
		}
	}
	o := api.Op{Author: 4, Preds: ids(1), Stamp: 7, Act: set("x", num(5))}
	for _, v := range []api.Value{flt(plain + 1), flt(plain - 1), flt(plain | 1<<63), flt(math.MaxUint64), text("\x1f"), text("a\x7f"), text("\x80"), text(strings.Repeat("t", 31)), text(strings.Repeat("t", 300))} {
		noOp(t, replaced(o, partValue, wantValue(v)))
	}
	for _, b := range [][]byte{{}, {0}, {0, 0}, {1}, {2}, {3}, {4, 0}, {255, 0}, {2, 0, 0, 0}, {1, 10, 0}} {
		noOp(t, replaced(o, partValue, b))
	}
}

// P6.3: all bytes of the shape of an operation without predecessors that does nothing, with numbers of one byte.
func TestDecodeShort(t *testing.T) {
	for author := range 256 {
		for preds := range 3 {
			for kind := range 6 {
				b := []byte{111, byte(author), byte(preds), 7, byte(kind), 1, byte(author)}
				fine := author <= 247 && preds == 0 && kind == 1 && big.Jacobi(big.NewInt(int64(author)), bigP) == 1
				if !fine {
					noOp(t, b)
					continue
				}
				want := api.Op{Author: uint32(author), Stamp: 7, Act: none(), Sig: api.Sig{E: 1, S: uint32(author)}}
				if got := mustDecode(t, b); !same(got, want) {
					t.Errorf("Decode(%v) = %v", b, got)
				}
			}
		}
	}
}

// anyBytes returns bytes of which some are those of an operation: those of operations with a few of them changed, put in, or left out.
func anyBytes() [][]byte {
	var l [][]byte
	x := uint32(1)
	next := func(n int) int {
		x = x*1664525 + 1013904223
		return int(x>>8) % n
	}
	ops := append(fineOps(), someOps()...)
	for range 60000 {
		b := wantBytes(ops[next(len(ops))])
		for range 1 + next(2) {
			switch at := next(len(b)); next(4) {
			case 0:
				b[at] = byte(next(256))
			case 1:
				b[at] += byte(next(3)) - 1
			case 2:
				b = slices.Insert(b, at, byte(next(256)))
			case 3:
				b = slices.Delete(b, at, at+1)
			}
		}
		l = append(l, b)
	}
	return l
}

// P6.3 and P6.5: whatever is read is valid, and has just the bytes that were read.
func TestAnyBytes(t *testing.T) {
	read := 0
	for _, b := range anyBytes() {
		o, e := op.Decode(b)
		if e != api.OK {
			noOp(t, b)
			continue
		}
		read++
		if e := op.Check(o); e != api.OK {
			t.Fatalf("Decode(%v) = %v: %v", b, o, e)
		}
		if again := mustEncode(t, o); !bytes.Equal(again, b) || !bytes.Equal(wantBytes(o), b) {
			t.Fatalf("Decode(%v) = %v, which has the bytes %v", b, o, again)
		}
		if id, e := op.ID(o); e != api.OK || id != sha256.Sum256(b) {
			t.Fatalf("the id of %v is %x, %v", b, id, e)
		}
	}
	if read < 1000 {
		t.Errorf("only %d were read", read)
	}
}

// P6.3: keys at the ends of their lengths.
func TestDecodeKeys(t *testing.T) {
	for n := range 40 {
		o := api.Op{Author: 4, Act: add(strings.Repeat("k", n))}
		if n < 1 || n > 20 {
			noOp(t, wantBytes(o))
		} else if got := mustDecode(t, wantBytes(o)); !same(got, o) {
			t.Errorf("Decode with a key of %d bytes = %v", n, got)
		}
	}
	for c := range 256 {
		o := api.Op{Author: 4, Act: remove("x" + string([]byte{byte(c)}))}
		if c < 33 || c > 126 {
			noOp(t, wantBytes(o))
		} else if got := mustDecode(t, wantBytes(o)); !same(got, o) {
			t.Errorf("Decode with the byte %d in its key = %v", c, got)
		}
	}
}
