package frame_test

import (
	"bytes"
	"math"
	"slices"
	"testing"

	"braid/api"
	"braid/frame"
)

// P7.2: each valid frame is read from its bytes.
func TestParse(t *testing.T) {
	for _, f := range fineFrames() {
		if got := mustParse(t, wantBytes(f)); !same(got, f) {
			t.Errorf("Parse of the bytes of %v = %v", f, got)
		}
	}
}

// P7.2: the bytes of which the chapter says that they are no frame, whether they are taken together or not.
func TestNoExamples(t *testing.T) {
	for _, b := range [][]byte{{7, 0}, {1}, {7, 0, 1}, {7}, {0}, {0, 1}} {
		noFrame(t, b)
	}
}

// P7.2: no frame has bytes that are cut anywhere; the rest stands up to the capacity, and is not looked at.
func TestCut(t *testing.T) {
	noFrame(t, nil)
	noFrame(t, []byte{})
	for _, f := range fineFrames() {
		b := wantBytes(f)
		for i := range b {
			noFrame(t, b[:i])
		}
	}
	for _, f := range someFrames() {
		b := wantBytes(f)
		for i := range b {
			noFrame(t, bytes.Clone(b[:i]))
		}
	}
}

// P7.2: no frame has the bytes of one with others behind them.
func TestBehind(t *testing.T) {
	for _, f := range fineFrames() {
		b := wantBytes(f)
		for _, tail := range [][]byte{{0}, {1}, {5}, {247}, {255}, {0, 0}, {1, 0}, b, make([]byte, 32), pattern(400), make([]byte, 2000)} {
			noFrame(t, slices.Concat(b, tail))
		}
	}
}

// P7.2: nor with others before them, where these begin no frame.
func TestBefore(t *testing.T) {
	for _, f := range fineFrames() {
		for _, first := range []byte{0, 7, 8, 111, 255} {
			noFrame(t, append([]byte{first}, wantBytes(f)...))
		}
	}
}

// P7.2: kinds that there are not have no frame, whatever stands behind them.
func TestNoKinds(t *testing.T) {
	for kind := range 256 {
		if kind >= 1 && kind <= 6 {
			continue
		}
		noFrame(t, []byte{byte(kind)})
		for _, f := range someFrames() {
			noFrame(t, append([]byte{byte(kind)}, wantBytes(f)[1:]...))
		}
	}
}

// P7.2: each kind is read as what it has, not as what another one has.
func TestOtherKinds(t *testing.T) {
	one := append([]byte{1}, pattern(32)...)
	for _, kind := range []byte{1, 5, 6} {
		noFrame(t, append([]byte{kind}, one...))
	}
	strings := []byte{2, 2, 97, 98, 0}
	for _, kind := range []byte{1, 2, 3, 4, 6} {
		noFrame(t, append([]byte{kind}, strings...))
	}
	for n := uint64(1); n < 300; n++ {
		for _, kind := range []byte{2, 3, 4, 5} {
			noFrame(t, append([]byte{kind}, wantNumber(n)...))
		}
	}
}

// P7.2: numbers have their shortest bytes: N, and each count.
func TestTooLong(t *testing.T) {
	for _, n := range numbers() {
		for _, b := range longer(n) {
			noFrame(t, append([]byte{1}, b...))
			noFrame(t, append([]byte{6}, b...))
		}
	}
	for _, kind := range idKinds() {
		for n := range maxIDs + 1 {
			for _, b := range longer(uint64(n)) {
				noFrame(t, slices.Concat([]byte{kind}, b, wantIDs(ids(n))[1:]))
			}
		}
	}
	for n := range maxOps + 1 {
		for _, b := range longer(uint64(n)) {
			noFrame(t, slices.Concat([]byte{5}, b, make([]byte, n)))
		}
	}
	for _, n := range []int{0, 1, 2, 246, 247, 248, 255, 256, 300, maxOpBytes} {
		for _, b := range longer(uint64(n)) {
			noFrame(t, slices.Concat([]byte{5, 1}, b, pattern(n)))
			noFrame(t, slices.Concat([]byte{5, 2, 1, 7}, b, pattern(n)))
		}
	}
}

// P7.2: bytes with too many ids or strings, with strings that are too long, with ids that are equal or fall, or with too many bytes in all are no frame.
func TestBadLists(t *testing.T) {
	for _, f := range badLists() {
		noFrame(t, wantBytes(f))
	}
}

// P7.2: counts of more ids, strings or bytes than there are, also those that no memory has, and those that are less than 0 as an int.
func TestGreatCounts(t *testing.T) {
	counts := append(numbers(), 1<<27, 1<<31+1, 1<<32+1, 1<<32+8, 1<<58, 1<<58+1, 1<<59, 1<<59+1, 1<<59+40, 1<<60, 1<<63+1, 1<<63+8)
	for _, n := range counts {
		for _, size := range []int{0, 1, 31, 32, 33, 64, 400, 1280, 1900} {
			for _, kind := range []byte{2, 3, 4, 5} {
				// As many bytes 1 are n ids in no order, or n strings of one byte.
				b := slices.Concat([]byte{kind}, wantNumber(n), bytes.Repeat([]byte{1}, size))
				switch {
				case kind < 5 && n <= 1 && size == int(n)*32, kind == 5 && n <= 8 && size == 2*int(n):
					mustParse(t, b)
				default:
					noFrame(t, b)
				}
			}
			b := slices.Concat([]byte{5, 1}, wantNumber(n), pattern(size))
			if n == uint64(size) && n <= maxOpBytes {
				mustParse(t, b)
			} else {
				noFrame(t, b)
			}
		}
	}
}

// P7.2: fewer ids or strings than there are.
func TestSmallCounts(t *testing.T) {
	for n := 1; n <= maxIDs; n++ {
		for _, kind := range idKinds() {
			b := wantBytes(list(kind, ids(n)))
			b[1]--
			noFrame(t, b)
			b[1] += 2
			noFrame(t, b)
		}
	}
	for n := 1; n <= maxOps; n++ {
		b := wantBytes(ops(slices.Repeat([][]byte{{1}}, n)...))
		b[1]--
		noFrame(t, b)
		b[1] += 2
		noFrame(t, b)
	}
}

// P7.2: no frame has more than MaxFrame bytes, however they begin.
func TestLongBytes(t *testing.T) {
	for _, n := range []int{maxFrame + 1, maxFrame + 2, 2100, 10000, 200000, 10000000} {
		for _, first := range []byte{0, 1, 2, 5, 6, 247, 248, 255} {
			noFrame(t, bytes.Repeat([]byte{first}, n))
		}
		for _, f := range append(someFrames(), ops(filled(maxFrame)[0]...)) {
			b := make([]byte, n)
			copy(b, wantBytes(f))
			noFrame(t, b)
		}
	}
	for _, strings := range filled(maxFrame) {
		if b := wantBytes(ops(strings...)); len(b) != maxFrame || !same(mustParse(t, b), ops(strings...)) {
			t.Errorf("%d bytes are not read back", len(b))
		}
	}
}

// wantParse is the frame with just these bytes, and whether there is one, by the chapter alone: it takes what it needs from the front, and asks in the end whether the frame has these bytes.
func wantParse(b []byte) (api.Frame, bool) {
	number := func() (n uint64) {
		if len(b) == 0 {
			return 0
		}
		first := b[0]
		b = b[1:]
		if first <= 247 {
			return uint64(first)
		}
		for range int(first) - 247 {
			if len(b) > 0 {
				n, b = n<<8+uint64(b[0]), b[1:]
			}
		}
		return n
	}
	take := func(n uint64) []byte {
		part := b[:min(n, uint64(len(b)))]
		b = b[len(part):]
		return part
	}
	whole := b
	var f api.Frame
	if len(b) > 0 {
		f.Kind, b = b[0], b[1:]
	}
	switch f.Kind {
	case 1, 6:
		f.N = number()
	case 2, 3, 4:
		for range min(number(), maxIDs) {
			var id api.ID
			copy(id[:], take(32))
			f.IDs = append(f.IDs, id)
		}
	case 5:
		for range min(number(), maxOps) {
			f.Ops = append(f.Ops, take(min(number(), maxOpBytes)))
		}
	default:
		return api.Frame{}, false
	}
	for i := range max(len(f.IDs), 1) - 1 {
		if bytes.Compare(f.IDs[i][:], f.IDs[i+1][:]) >= 0 {
			return api.Frame{}, false
		}
	}
	return f, len(whole) <= maxFrame && bytes.Equal(wantBytes(f), whole)
}

// checkParse fails unless Parse does with bytes what it should; it reports whether they are those of a frame.
func checkParse(t *testing.T, b []byte) bool {
	t.Helper()
	want, fine := wantParse(b)
	if !fine {
		noFrame(t, b)
		return false
	}
	if f := mustParse(t, b); !same(f, want) {
		t.Errorf("Parse(%v) = %v, want %v", b, f, want)
	}
	return true
}

// P7.2: all bytes of a length of at most 2, and those of some bytes up to a length of 5.
func TestShortBytes(t *testing.T) {
	read := 0
	for i := range 256 {
		checkParse(t, []byte{byte(i)})
		for j := range 256 {
			if checkParse(t, []byte{byte(i), byte(j)}) {
				read++
			}
		}
	}
	// The numbers of one byte for two kinds, and no ids or strings for four.
	if read != 2*248+4 {
		t.Errorf("%d of two bytes were read", read)
	}
	letters := []byte{0, 1, 2, 3, 5, 6, 247, 248, 249, 255}
	read = 0
	for n := range 100000 {
		b := []byte{letters[n%10], letters[n/10%10], letters[n/100%10], letters[n/1000%10], letters[n/10000]}
		for size := 3; size <= 5; size++ {
			if n < int(math.Pow10(size)) && checkParse(t, b[:size]) {
				read++
			}
		}
	}
	if read < 50 {
		t.Errorf("only %d were read", read)
	}
}

// anyBytes returns bytes of which some are those of a frame: those of frames with a few of them changed, put in, or left out.
func anyBytes() [][]byte {
	var l [][]byte
	x := uint32(1)
	next := func(n int) int {
		x = x*1664525 + 1013904223
		return int(x>>8) % n
	}
	frames := append(fineFrames(), someFrames()...)
	for range 60000 {
		b := wantBytes(frames[next(len(frames))])
		for range 1 + next(2) {
			at := next(len(b))
			if next(2) == 0 {
				// The counts stand near the front.
				at = next(min(len(b), 6))
			}
			switch next(4) {
			case 0:
				b[at] = byte(next(256))
			case 1:
				b[at] += byte(next(3)) - 1
			case 2:
				b = slices.Insert(b, at, byte(next(256)))
			case 3:
				b = append(slices.Delete(b, at, at+1), 0)
			}
		}
		l = append(l, b)
	}
	return l
}

// P7.2 and P7.4: whatever is read is valid, and has just the bytes that were read; what is not read has no frame.
func TestAnyBytes(t *testing.T) {
	read := 0
	for _, b := range anyBytes() {
		if !checkParse(t, b) {
			continue
		}
		read++
		f := mustParse(t, b)
		if e := frame.Check(f); e != api.OK {
			t.Fatalf("Parse(%v) = %v: %v", b, f, e)
		}
		if again := mustEncode(t, f); !bytes.Equal(again, b) {
			t.Fatalf("Parse(%v) = %v, which has the bytes %v", b, f, again)
		}
	}
	if read < 1000 {
		t.Errorf("only %d were read", read)
	}
}
