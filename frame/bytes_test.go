package frame_test

import (
	"bytes"
	"math"
	"slices"
	"testing"

	"braid/api"
	"braid/frame"
)

// known returns frames with their bytes, as the chapter has them, or made by hand.
func known() []struct {
	f    api.Frame
	want []byte
} {
	return []struct {
		f    api.Frame
		want []byte
	}{
		{api.Frame{Kind: api.FrameHello, N: 300}, []byte{1, 249, 1, 44}},
		{api.Frame{Kind: api.FrameWant}, []byte{3, 0}},
		{api.Frame{Kind: api.FrameOps, Ops: [][]byte{[]byte("ab"), []byte("")}}, []byte{5, 2, 2, 97, 98, 0}},
		{hello(0), []byte{1, 0}},
		{hello(1), []byte{1, 1}},
		{hello(247), []byte{1, 247}},
		{hello(248), []byte{1, 248, 248}},
		{hello(255), []byte{1, 248, 255}},
		{hello(256), []byte{1, 249, 1, 0}},
		{hello(math.MaxUint64), []byte{1, 255, 255, 255, 255, 255, 255, 255, 255, 255}},
		{bye(0), []byte{6, 0}},
		{bye(2), []byte{6, 2}},
		{bye(1 << 20), []byte{6, 250, 16, 0, 0}},
		{bye(math.MaxUint64), []byte{6, 255, 255, 255, 255, 255, 255, 255, 255, 255}},
		{list(2, nil), []byte{2, 0}},
		{list(4, []api.ID{}), []byte{4, 0}},
		{list(2, []api.ID{{5, 31: 6}}), append([]byte{2, 1, 5}, append(make([]byte, 30), 6)...)},
		{list(3, []api.ID{{}, {31: 1}}), append([]byte{3, 2}, append(make([]byte, 63), 1)...)},
		{list(4, []api.ID{{7}, {8}}), slices.Concat([]byte{4, 2, 7}, make([]byte, 31), []byte{8}, make([]byte, 31))},
		{ops(), []byte{5, 0}},
		{ops(nil), []byte{5, 1, 0}},
		{ops(make([][]byte, 8)...), []byte{5, 8, 0, 0, 0, 0, 0, 0, 0, 0}},
		{ops([]byte{9}, nil, []byte{9}), []byte{5, 3, 1, 9, 0, 1, 9}},
		{ops(pattern(247)), append([]byte{5, 1, 247}, pattern(247)...)},
		{ops(pattern(248)), append([]byte{5, 1, 248, 248}, pattern(248)...)},
		{ops(pattern(400)), append([]byte{5, 1, 249, 1, 144}, pattern(400)...)},
	}
}

// P7.1 and P7.2: known bytes, there and back.
func TestKnown(t *testing.T) {
	for _, c := range known() {
		if b := mustEncode(t, c.f); !bytes.Equal(b, c.want) {
			t.Errorf("Encode(%v) = %v, want %v", c.f, b, c.want)
		}
		if f := mustParse(t, c.want); !same(f, c.f) {
			t.Errorf("Parse(%v) = %v, want %v", c.want, f, c.f)
		}
	}
}

// P7.1: the bytes of frames of each kind.
func TestEncode(t *testing.T) {
	for _, f := range fineFrames() {
		if b := mustEncode(t, f); !bytes.Equal(b, wantBytes(f)) {
			t.Errorf("Encode(%v) = %v", f, b)
		}
	}
}

// P7.1: a frame with the most ids has 1,282 bytes.
func TestMostIDs(t *testing.T) {
	for _, kind := range idKinds() {
		if b := mustEncode(t, list(kind, ids(maxIDs))); len(b) != 1282 || b[0] != kind || b[1] != maxIDs {
			t.Errorf("the kind %d with the most ids has %d bytes, %v", kind, len(b), b[:2])
		}
	}
}

// P7.1: Encode returns Check's error, for any frame.
func TestEncodeError(t *testing.T) {
	for _, f := range slices.Concat(fineFrames(), badFrames()) {
		want := frame.Check(f)
		if b, e := frame.Encode(f); e != want || (e == api.OK) != (len(b) > 0) {
			t.Errorf("Encode of the kind %d = %d bytes, %v, want %v", f.Kind, len(b), e, want)
		}
	}
}
