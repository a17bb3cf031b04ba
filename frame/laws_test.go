package frame_test

import (
	"bytes"
	"fmt"
	"math"
	"testing"

	"braid/api"
	"braid/frame"
)

// P7.4: Parse of Encode is the frame, and Encode of Parse are the bytes.
func TestThereAndBack(t *testing.T) {
	for _, f := range fineFrames() {
		b := mustEncode(t, f)
		back := mustParse(t, b)
		if !same(back, f) {
			t.Errorf("%v has become %v", f, back)
		}
		if e := frame.Check(back); e != api.OK {
			t.Errorf("Check(%v) = %v", back, e)
		}
		if again := mustEncode(t, back); !bytes.Equal(again, b) {
			t.Errorf("%v has become %v", b, again)
		}
	}
}

// P7.4: different frames have different bytes.
func TestOwnBytes(t *testing.T) {
	seen := map[string]api.Frame{}
	for _, f := range fineFrames() {
		b := string(mustEncode(t, f))
		if at, ok := seen[b]; ok && !same(at, f) {
			t.Errorf("%v and %v have the same bytes", at, f)
		}
		seen[b] = f
	}
	if len(seen) < 150 {
		t.Errorf("only %d frames", len(seen))
	}
}

// P7.4: the bytes of no frame begin those of another one.
func TestNoFirstPart(t *testing.T) {
	for _, f := range someFrames() {
		for _, g := range fineFrames() {
			a, b := mustEncode(t, f), mustEncode(t, g)
			if bytes.HasPrefix(b, a) && !same(f, g) {
				t.Errorf("the bytes of %v begin those of %v", f, g)
			}
		}
	}
}

// P7.4: frames of a list that was split are read back from their bytes, and have its ids.
func TestSplitAndBack(t *testing.T) {
	for n := range maxList + 1 {
		for _, kind := range idKinds() {
			var all []api.ID
			for _, f := range mustSplit(t, ids(n), kind) {
				all = append(all, mustParse(t, mustEncode(t, f)).IDs...)
			}
			if fmt.Sprint(all) != fmt.Sprint(ids(n)) {
				t.Errorf("%d ids have become %x", n, all)
			}
		}
	}
}

// R7: no frame panics, whatever stands in it, and what is valid is read back.
func TestNoPanic(t *testing.T) {
	lists := append(disorders(3), nil, []api.ID{}, ids(1), ids(maxIDs), ids(maxIDs+1), ids(1000))
	strings := append(badStrings(), nil, [][]byte{}, [][]byte{nil}, make([][]byte, maxOps))
	valid := 0
	for kind := range 256 {
		if kind > 8 && kind < 250 {
			continue
		}
		for _, n := range []uint64{0, 1, 248, math.MaxUint64} {
			for _, l := range lists {
				for _, s := range strings {
					f := api.Frame{Kind: uint8(kind), N: n, IDs: l, Ops: s}
					e := frame.Check(f)
					b, same := frame.Encode(f)
					if same != e || e != api.OK && e != api.ErrBad || (e == api.OK) != (b != nil) {
						t.Fatalf("the kind %d with N %d, %d ids and %d strings: Check %v, Encode %d bytes, %v", kind, n, len(l), len(s), e, len(b), same)
					}
					if e == api.OK {
						valid++
						mustParse(t, b)
					}
				}
			}
		}
	}
	// 4 numbers and 2 * 2 empty lists for two kinds, 4 lists of ids and 2 empty ones of strings for three, and 4 lists of strings and 2 empty ones of ids.
	if want := 2*4*2*2 + 3*4*2 + 4*2; valid != want {
		t.Errorf("%d frames are valid, want %d", valid, want)
	}
}
