package judge_test

import (
	"bytes"
	"math/rand"
	"slices"
	"testing"

	"braid/api"
	"braid/judge"
)

// fineBytes, malformedBytes, largeBytes and badBytes return bytes with just this verdict.

func fineBytes() []byte      { return wantBytes(someOps()[0]) }
func malformedBytes() []byte { return []byte{111, 4, 0, 7} }
func largeBytes() []byte     { return make([]byte, maxBytes+1) }
func badBytes() []byte       { return []byte{111, 4, 0, 7, 1, 0, 0} }

// kinds returns bytes with each verdict, and these verdicts.
func kinds() ([][]byte, []uint8) {
	return [][]byte{fineBytes(), malformedBytes(), largeBytes(), badBytes(), nil},
		[]uint8{fine, malformed, tooLarge, badSig, malformed}
}

// checkList fails unless Many and Count find verdicts on a list.
func checkList(t *testing.T, l [][]byte, want []uint8) {
	t.Helper()
	if got, e := judge.Many(l); e != api.OK || !slices.Equal(got, want) {
		t.Errorf("Many of %d: %v, %v, want %v", len(l), got, e, want)
	}
	var counts [10]int
	for _, verdict := range want {
		counts[verdict]++
	}
	if got, e := judge.Count(l); e != api.OK || got != counts {
		t.Errorf("Count of %d: %v, %v, want %v", len(l), got, e, counts)
	}
}

// checkTooMany fails unless Many and Count refuse a list.
func checkTooMany(t *testing.T, l [][]byte) {
	t.Helper()
	if got, e := judge.Many(l); e != api.ErrMany || len(got) != 0 {
		t.Errorf("Many of %d: %v, %v", len(l), got, e)
	}
	if got, e := judge.Count(l); e != api.ErrMany || got != [10]int{} {
		t.Errorf("Count of %d: %v, %v", len(l), got, e)
	}
}

// repeated is a list of n times the same bytes.
func repeated(b []byte, n int) [][]byte {
	return slices.Repeat([][]byte{b}, n)
}

// P8.2: lists without anything.
func TestNothing(t *testing.T) {
	checkList(t, nil, nil)
	checkList(t, [][]byte{}, nil)
	checkList(t, make([][]byte, 0, 5), nil)
}

// P8.2: lists of from one to MaxList of the same bytes, of each verdict.
func TestRepeated(t *testing.T) {
	bytesOf, verdicts := kinds()
	for i, b := range bytesOf {
		for n := range maxList + 1 {
			checkList(t, repeated(b, n), slices.Repeat(verdicts[i:i+1], n))
		}
	}
}

// P8.2: ErrMany for more than MaxList, whatever they are.
func TestTooMany(t *testing.T) {
	bytesOf, _ := kinds()
	for _, n := range []int{maxList + 1, maxList + 2, 100, 256, maxList + 256, 1000} {
		for _, b := range bytesOf {
			checkTooMany(t, repeated(b, n))
		}
	}
	checkTooMany(t, make([][]byte, 1000000))
	// A longer list, of which just MaxList are looked at.
	checkList(t, make([][]byte, 100)[:maxList], slices.Repeat([]uint8{malformed}, maxList))
}

// P8.2: each verdict at each place of a list, and in each order of all of them.
func TestPlaces(t *testing.T) {
	bytesOf, verdicts := kinds()
	for i := range bytesOf {
		for at := range maxList {
			l, want := repeated(malformedBytes(), maxList), slices.Repeat([]uint8{malformed}, maxList)
			l[at], want[at] = bytesOf[i], verdicts[i]
			checkList(t, l, want)
		}
	}
	for code := range 5 * 5 * 5 * 5 {
		var l [][]byte
		var want []uint8
		for rest, n := code, 0; n < 4; n++ {
			l, want = append(l, bytesOf[rest%5]), append(want, verdicts[rest%5])
			rest /= 5
		}
		checkList(t, l, want)
	}
}

// P8.2: counts at each index: of the verdicts that bytes can have, and 0 for all others.
func TestCounts(t *testing.T) {
	var l [][]byte
	for i, b := range [][]byte{fineBytes(), malformedBytes(), largeBytes(), badBytes()} {
		l = append(l, repeated(b, 3+4*i)...)
	}
	n, e := judge.Count(l)
	if want := [10]int{0: 3, malformed: 7, tooLarge: 11, badSig: 15}; e != api.OK || n != want {
		t.Errorf("Count = %v, %v, want %v", n, e, want)
	}
	if e != api.OK || n[api.Committed] != 0 || n[api.Duplicate] != 0 || n[api.Waiting] != 0 || n[api.PendingFull] != 0 || n[api.StoreFull] != 0 || n[api.Closed] != 0 {
		t.Errorf("Count = %v", n)
	}
}

// P8.2: the same bytes twice have the verdict twice, as one slice and as two; nothing is a duplicate here.
func TestTwice(t *testing.T) {
	for _, o := range someOps() {
		b := wantBytes(o)
		checkList(t, [][]byte{b, b}, []uint8{fine, fine})
		checkList(t, [][]byte{b, bytes.Clone(b), nil, b[:len(b)-1], b}, []uint8{fine, fine, malformed, malformed, fine})
		o.Sig.S = (o.Sig.S + 1) % order
		bad := wantBytes(o)
		checkList(t, [][]byte{bad, b, bad}, []uint8{badSig, fine, badSig})
	}
}

// P8.2 and P8.3: in any order, among any others, bytes have the verdict that they have alone.
func TestAnyLists(t *testing.T) {
	draw := rand.New(rand.NewSource(82))
	whole := someOps()
	for range 300 {
		var l [][]byte
		var want []uint8
		for range draw.Intn(maxList + 1) {
			b := drawn(draw, whole)
			_, _, alone := judge.Of(b)
			l, want = append(l, b), append(want, alone)
		}
		checkList(t, l, want)
		draw.Shuffle(len(l), func(i, j int) {
			l[i], l[j] = l[j], l[i]
			want[i], want[j] = want[j], want[i]
		})
		checkList(t, l, want)
		slices.Reverse(l)
		slices.Reverse(want)
		checkList(t, l, want)
	}
}
