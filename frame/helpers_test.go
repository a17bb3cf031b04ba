package frame_test

import (
	"bytes"
	"encoding/binary"
	"math"
	"slices"
	"testing"

	"braid/api"
	"braid/frame"
)

// The limits of the chapter, as numbers.
const (
	maxIDs     = 40
	maxOps     = 8
	maxOpBytes = 400
	maxFrame   = 2000
	maxList    = 60
)

// pattern returns n bytes that have no short period, so that bytes in the wrong place are noticed.
func pattern(n int) []byte {
	b := make([]byte, n)
	x := uint32(n)*2654435761 + 1
	for i := range b {
		x = x*1664525 + 1013904223
		b[i] = byte(x >> 24)
	}
	return b
}

// numbers returns numbers: 0, the greatest one, and those where the bytes grow.
func numbers() []uint64 {
	l := []uint64{0, 1, 2, 7, 40, 41, 246, 247, 248, 249, 300, 1 << 20, math.MaxUint64 - 1, math.MaxUint64}
	for i := 8; i < 64; i += 8 {
		l = append(l, 1<<i-1, 1<<i, 1<<i+1)
	}
	return append(l, 1<<31, 1<<63-1, 1<<63)
}

// ids returns n ids that increase strictly; n is at most 65,536.
func ids(n int) []api.ID {
	l := make([]api.ID, n)
	for i := range l {
		l[i] = api.ID(pattern(32))
		l[i][0], l[i][1] = byte(i>>8), byte(i)
		l[i][31] = byte(255 - i)
	}
	return l
}

// fineLists returns lists of at most MaxIDs ids that increase strictly.
func fineLists() [][]api.ID {
	last := api.ID(bytes.Repeat([]byte{255}, 32))
	before := last
	before[31] = 254
	l := [][]api.ID{nil, {}, {{}}, {last}, {{}, last}, {before, last}, {{1}, {127}, {128}, before, last}}
	l = append(l, []api.ID{{}, {31: 1}, {30: 1}, {29: 1, 31: 1}, {15: 1}}, ids(60)[20:], ids(1000)[960:])
	for _, n := range []int{1, 2, 3, 7, 8, 20, maxIDs - 1, maxIDs} {
		l = append(l, ids(n))
	}
	return l
}

// disorders returns lists of n ids that do not increase strictly, each one in another place; n is at least 2.
func disorders(n int) [][]api.ID {
	var l [][]api.ID
	for i := range n - 1 {
		same, swapped, late := ids(n), ids(n), ids(n)
		same[i+1] = same[i]
		swapped[i], swapped[i+1] = swapped[i+1], swapped[i]
		// Only the last byte is less, behind 31 equal ones.
		late[i][31], late[i+1] = 9, late[i]
		late[i+1][31] = 8
		l = append(l, same, swapped, late)
	}
	down := ids(n)
	slices.Reverse(down)
	return append(l, down, make([]api.ID, n))
}

// longLists returns lists of more than n ids, in order and not.
func longLists(n int) [][]api.ID {
	var l [][]api.ID
	for _, n := range []int{n + 1, n + 2, 2 * n, 247, 248, 256} {
		down := ids(n)
		slices.Reverse(down)
		l = append(l, ids(n), down, make([]api.ID, n))
	}
	return append(l, make([]api.ID, 100000))
}

// fill returns strings with these lengths, and one more, so that the bytes of their frame are n; nil if no length of that one gives just so many.
func fill(n int, lengths ...int) [][]byte {
	var l [][]byte
	for _, length := range lengths {
		l = append(l, pattern(length))
	}
	left := n - len(wantBytes(ops(l...)))
	for more := range 4 {
		if length := left - more; length >= 0 && len(wantNumber(uint64(length))) == more {
			return append(l, pattern(length))
		}
	}
	return nil
}

// filled returns lists of strings of which the bytes of the frame are n, about MaxFrame: with the fewest ones, and with more of them.
func filled(n int) [][][]byte {
	return [][][]byte{
		fill(n, 400, 400, 400, 400),
		fill(n, 390, 400, 400, 400),
		fill(n, 333, 333, 333, 333, 333),
		fill(n, 400, 400, 0, 400, 1, 400),
		fill(n, 280, 280, 280, 280, 280, 280),
		fill(n, 246, 247, 248, 249, 255, 256, 250),
		fill(n, 400, 400, 400, 0, 400, 0, 0),
	}
}

// fineStrings returns lists of strings that a frame may have; strings are any bytes, also equal ones.
func fineStrings() [][][]byte {
	l := [][][]byte{nil, {}, {nil}, {{}}, {nil, {}}, {{0}}, {{255}, {255}}, {{2}, {1}}, {[]byte("ab"), {}}, {{}, []byte("ab")}, {[]byte("\xff\xfe\x00 no text"), {5, 0}}}
	for n := 1; n <= maxOps; n++ {
		var equal, empty, other [][]byte
		for i := range n {
			equal = append(equal, pattern(9))
			empty = append(empty, nil)
			other = append(other, pattern(30*i))
		}
		l = append(l, equal, empty, other)
	}
	for _, n := range []int{1, 31, 32, 246, 247, 248, 249, 255, 256, 257, 300, maxOpBytes - 1, maxOpBytes} {
		l = append(l, [][]byte{pattern(n)}, [][]byte{{7}, pattern(n)}, [][]byte{pattern(n), {7}}, [][]byte{pattern(n), pattern(n), pattern(n), pattern(n)})
	}
	return slices.Concat(l, filled(maxFrame-1), filled(maxFrame))
}

// badStrings returns lists of strings that no frame may have: too many, too long ones, or too many bytes in all.
func badStrings() [][][]byte {
	var l [][][]byte
	for _, n := range []int{maxOps + 1, maxOps + 2, 16, 247, 248, 256, 10000} {
		one := make([][]byte, n)
		for i := range one {
			one[i] = []byte{1}
		}
		l = append(l, make([][]byte, n), one)
	}
	for _, n := range []int{maxOpBytes + 1, maxOpBytes + 2, 512, 1997, 1998, maxFrame, maxFrame + 1, 10000, 10001, 200000} {
		l = append(l, [][]byte{pattern(n)}, [][]byte{{}, pattern(n)}, [][]byte{pattern(n), {}}, [][]byte{{}, {1}, {}, {}, {}, {}, {}, pattern(n)})
	}
	most := slices.Repeat([][]byte{pattern(maxOpBytes)}, maxOps)
	l = append(l, most, most[:7], most[:6], most[:5])
	return slices.Concat(l, filled(maxFrame+1), filled(maxFrame+2))
}

func hello(n uint64) api.Frame { return api.Frame{Kind: 1, N: n} }
func bye(n uint64) api.Frame   { return api.Frame{Kind: 6, N: n} }

func list(kind uint8, l []api.ID) api.Frame { return api.Frame{Kind: kind, IDs: l} }
func ops(l ...[]byte) api.Frame             { return api.Frame{Kind: 5, Ops: l} }

// idKinds returns the kinds of frames that have ids.
func idKinds() []uint8 { return []uint8{2, 3, 4} }

// fineFrames returns valid frames of each kind.
func fineFrames() []api.Frame {
	var l []api.Frame
	for _, n := range numbers() {
		l = append(l, hello(n), bye(n))
	}
	for _, kind := range idKinds() {
		for _, list := range fineLists() {
			l = append(l, api.Frame{Kind: kind, IDs: list})
		}
	}
	for _, strings := range fineStrings() {
		l = append(l, ops(strings...))
	}
	return l
}

// someFrames returns a few valid frames of each kind, with few bytes.
func someFrames() []api.Frame {
	l := []api.Frame{hello(0), hello(300), bye(5), bye(math.MaxUint64), ops(), ops(nil), ops([]byte("ab"), nil, []byte("c")), ops(pattern(300), pattern(5))}
	for i, kind := range idKinds() {
		l = append(l, list(kind, nil), list(kind, ids(i+1)))
	}
	return l
}

// badLists returns frames whose ids, or strings, no frame may have.
func badLists() []api.Frame {
	var l []api.Frame
	for _, kind := range idKinds() {
		for _, list := range slices.Concat(disorders(2), disorders(3), disorders(maxIDs), disorders(maxIDs+1), longLists(maxIDs)) {
			l = append(l, api.Frame{Kind: kind, IDs: list})
		}
	}
	for _, strings := range badStrings() {
		l = append(l, ops(strings...))
	}
	return l
}

// badFrames returns frames that are not valid.
func badFrames() []api.Frame {
	l := append(badLists(), api.Frame{})
	for kind := range 256 {
		if kind >= 1 && kind <= 6 {
			continue
		}
		k := uint8(kind)
		l = append(l, api.Frame{Kind: k}, api.Frame{Kind: k, N: 1}, list(k, ids(1)), list(k, ids(2)), api.Frame{Kind: k, Ops: [][]byte{{1}}})
	}
	for _, f := range someFrames() {
		l = append(l, crowded(f)...)
	}
	return l
}

// crowded returns frames with the parts of f, and with something outside its kind, which may be as little as a zero id or an empty string.
func crowded(f api.Frame) []api.Frame {
	var l []api.Frame
	put := func(g api.Frame) {
		if f.Kind != g.Kind {
			panic("the kind stays")
		}
		l = append(l, g)
	}
	if f.Kind != 1 && f.Kind != 6 {
		for _, n := range []uint64{1, 247, 256, 1 << 32, 1 << 63, math.MaxUint64} {
			put(api.Frame{Kind: f.Kind, N: n, IDs: f.IDs, Ops: f.Ops})
		}
	}
	if f.Kind < 2 || f.Kind > 4 {
		for _, list := range [][]api.ID{{{}}, ids(1), ids(2), ids(maxIDs), ids(maxIDs + 1), make([]api.ID, 2)} {
			put(api.Frame{Kind: f.Kind, N: f.N, IDs: list, Ops: f.Ops})
		}
	}
	if f.Kind != 5 {
		for _, strings := range [][][]byte{{nil}, {{}}, {{0}}, {{1}, {2}}, make([][]byte, maxOps), make([][]byte, maxOps+1), {pattern(maxOpBytes + 1)}} {
			put(api.Frame{Kind: f.Kind, N: f.N, IDs: f.IDs, Ops: strings})
		}
	}
	return l
}

// wantNumber is the bytes of a number, by the standard library: its eight bytes without the zeros before them.
func wantNumber(n uint64) []byte {
	if n <= 247 {
		return []byte{byte(n)}
	}
	eight := binary.BigEndian.AppendUint64(nil, n)
	cut := bytes.TrimLeft(eight, "\x00")
	return append([]byte{byte(247 + len(cut))}, cut...)
}

// longer returns all bytes that stand for n and are too long for it.
func longer(n uint64) [][]byte {
	eight := binary.BigEndian.AppendUint64(nil, n)
	var l [][]byte
	for k := len(wantNumber(n)); k <= 8; k++ {
		l = append(l, append([]byte{byte(247 + k)}, eight[8-k:]...))
	}
	return l
}

// wantIDs is the bytes of ids, and wantStrings that of strings; both begin with the bytes of a count.
func wantIDs(l []api.ID) []byte {
	b := wantNumber(uint64(len(l)))
	for _, id := range l {
		b = append(b, id[:]...)
	}
	return b
}

func wantStrings(l [][]byte) []byte {
	b := wantNumber(uint64(len(l)))
	for _, s := range l {
		b = slices.Concat(b, wantNumber(uint64(len(s))), s)
	}
	return b
}

// wantBytes is the bytes of a frame of one of the six kinds, valid or not.
func wantBytes(f api.Frame) []byte {
	switch f.Kind {
	case 1, 6:
		return append([]byte{f.Kind}, wantNumber(f.N)...)
	case 2, 3, 4:
		return append([]byte{f.Kind}, wantIDs(f.IDs)...)
	}
	return append([]byte{5}, wantStrings(f.Ops)...)
}

// same reports whether two frames are equal, where nil and empty lists and strings are.
func same(f, g api.Frame) bool {
	return f.Kind == g.Kind && f.N == g.N && slices.Equal(f.IDs, g.IDs) && slices.EqualFunc(f.Ops, g.Ops, bytes.Equal)
}

// The must functions fail where there is an error.

func mustEncode(t *testing.T, f api.Frame) []byte {
	t.Helper()
	b, e := frame.Encode(f)
	if e != api.OK {
		t.Fatalf("Encode(%v): %v", f, e)
	}
	return b
}

func mustParse(t *testing.T, b []byte) api.Frame {
	t.Helper()
	f, e := frame.Parse(b)
	if e != api.OK {
		t.Fatalf("Parse(%v): %v", b, e)
	}
	return f
}

func mustSplit(t *testing.T, l []api.ID, kind uint8) []api.Frame {
	t.Helper()
	frames, e := frame.Split(l, kind)
	if e != api.OK {
		t.Fatalf("Split of %d ids: %v", len(l), e)
	}
	return frames
}

// The no functions fail unless there is this error, with nothing beside it.

func noFrame(t *testing.T, b []byte) {
	t.Helper()
	if f, e := frame.Parse(b); e != api.ErrForm || f.Kind != 0 || f.N != 0 || f.IDs != nil || f.Ops != nil {
		t.Errorf("Parse of %d bytes, %v ..., = %v, %v", len(b), b[:min(len(b), 40)], f, e)
	}
}

func noSplit(t *testing.T, l []api.ID, kind uint8, want api.Errno) {
	t.Helper()
	if frames, e := frame.Split(l, kind); e != want || len(frames) != 0 {
		t.Errorf("Split of %d ids, kind %d = %v, %v, want %v", len(l), kind, frames, e, want)
	}
}
