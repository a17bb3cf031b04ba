package frame_test

import (
	"math"
	"slices"
	"testing"

	"braid/api"
	"braid/frame"
)

// P7.3: the example, and the lists at each limit.
func TestSplitSizes(t *testing.T) {
	for _, c := range []struct {
		n    int
		want []int
	}{
		{0, []int{0}},
		{1, []int{1}},
		{2, []int{2}},
		{39, []int{39}},
		{40, []int{40}},
		{41, []int{40, 1}},
		{42, []int{40, 2}},
		{59, []int{40, 19}},
		{60, []int{40, 20}},
	} {
		for _, kind := range []uint8{api.FrameHeads, api.FrameWant, api.FrameHave} {
			var sizes []int
			for _, f := range mustSplit(t, ids(c.n), kind) {
				sizes = append(sizes, len(f.IDs))
			}
			if !slices.Equal(sizes, c.want) {
				t.Errorf("Split of %d ids has %v, want %v", c.n, sizes, c.want)
			}
		}
	}
}

// P7.3 and P7.4: lists of each length, for each kind: the frames are valid, have the ids in order, and are no more than they have to be.
func TestSplit(t *testing.T) {
	for n := range maxList + 1 {
		for _, kind := range idKinds() {
			l := ids(n)
			frames := mustSplit(t, l, kind)
			var all []api.ID
			for i, f := range frames {
				if f.Kind != kind || f.N != 0 || f.Ops != nil || frame.Check(f) != api.OK {
					t.Errorf("Split of %d ids has the frame %v", n, f)
				}
				if i < len(frames)-1 && len(f.IDs) != maxIDs {
					t.Errorf("Split of %d ids has %d in the frame %d", n, len(f.IDs), i)
				}
				all = append(all, f.IDs...)
			}
			if !slices.Equal(all, l) {
				t.Errorf("Split of %d ids has %x", n, all)
			}
			if want := max(1, int(math.Ceil(float64(n)/maxIDs))); len(frames) != want {
				t.Errorf("Split of %d ids has %d frames, want %d", n, len(frames), want)
			}
		}
	}
}

// P7.3: nil is a list without ids.
func TestSplitNothing(t *testing.T) {
	for _, kind := range idKinds() {
		for _, l := range [][]api.ID{nil, {}, ids(5)[:0]} {
			if frames := mustSplit(t, l, kind); len(frames) != 1 || !same(frames[0], api.Frame{Kind: kind}) {
				t.Errorf("Split of nothing = %v", frames)
			}
		}
	}
}

// P7.3: lists with any ids that increase strictly, also those that differ in the last byte only.
func TestSplitLists(t *testing.T) {
	for _, l := range fineLists() {
		for _, kind := range idKinds() {
			if frames := mustSplit(t, l, kind); len(frames) != 1 || !same(frames[0], list(kind, l)) {
				t.Errorf("Split of %x = %v", l, frames)
			}
		}
	}
	close := make([]api.ID, maxList)
	for i := range close {
		close[i][31] = byte(i)
	}
	frames := mustSplit(t, close, 3)
	if len(frames) != 2 || !same(frames[0], list(3, close[:40])) || !same(frames[1], list(3, close[40:])) {
		t.Errorf("Split of ids that are close = %v", frames)
	}
}

// P7.3: ErrArg unless the kind has ids, before all else.
func TestSplitKind(t *testing.T) {
	lists := slices.Concat([][]api.ID{nil, ids(1), ids(maxIDs), ids(maxIDs + 1), ids(maxList)}, disorders(3), longLists(maxList))
	for kind := range 256 {
		if kind >= 2 && kind <= 4 {
			continue
		}
		for _, l := range lists {
			noSplit(t, l, uint8(kind), api.ErrArg)
		}
	}
}

// P7.3: ErrMany for more than MaxList ids, also where they do not increase.
func TestSplitMany(t *testing.T) {
	for _, kind := range idKinds() {
		for _, l := range slices.Concat(longLists(maxList), disorders(maxList+1)) {
			noSplit(t, l, kind, api.ErrMany)
		}
	}
}

// P7.3: ErrOrder unless the ids increase strictly, also from one frame to the next.
func TestSplitOrder(t *testing.T) {
	for _, kind := range idKinds() {
		for _, n := range []int{2, 3, maxIDs, maxIDs + 1, maxIDs + 2, maxList} {
			for _, l := range disorders(n) {
				noSplit(t, l, kind, api.ErrOrder)
			}
		}
		// Both frames would be valid, but the second one begins where the first one did.
		noSplit(t, append(ids(maxIDs), ids(20)...), kind, api.ErrOrder)
		noSplit(t, append(ids(60)[20:], ids(20)...), kind, api.ErrOrder)
	}
}
