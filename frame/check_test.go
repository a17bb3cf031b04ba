package frame_test

import (
	"bytes"
	"testing"

	"braid/api"
	"braid/frame"
)

// P7.1: frames of each kind are valid up to each limit.
func TestCheckFine(t *testing.T) {
	for _, f := range fineFrames() {
		if e := frame.Check(f); e != api.OK {
			t.Errorf("Check(%v) = %v", f, e)
		}
	}
}

// P7.1: ErrBad for kinds that there are not, for anything outside the kind, for too many ids, strings or bytes, and for ids in another order; nothing else is told of them.
func TestCheckBad(t *testing.T) {
	for _, f := range badFrames() {
		if e := frame.Check(f); e != api.ErrBad {
			t.Errorf("Check of the kind %d with N %d, %d ids and %d strings = %v", f.Kind, f.N, len(f.IDs), len(f.Ops), e)
		}
		if b, e := frame.Encode(f); e != api.ErrBad || b != nil {
			t.Errorf("Encode of the kind %d with N %d, %d ids and %d strings = %d bytes, %v", f.Kind, f.N, len(f.IDs), len(f.Ops), len(b), e)
		}
	}
}

// P7.1: just six kinds have a frame with nothing in it.
func TestKinds(t *testing.T) {
	for kind := range 256 {
		f := api.Frame{Kind: uint8(kind)}
		want := api.ErrBad
		switch f.Kind {
		case api.FrameHello, api.FrameHeads, api.FrameWant, api.FrameHave, api.FrameOps, api.FrameBye:
			want = api.OK
		}
		if e := frame.Check(f); e != want {
			t.Errorf("Check of the kind %d = %v, want %v", kind, e, want)
		}
		b, e := frame.Encode(f)
		if e != want || want == api.OK && !bytes.Equal(b, []byte{f.Kind, 0}) || want != api.OK && b != nil {
			t.Errorf("Encode of the kind %d = %v, %v, want %v", kind, b, e, want)
		}
	}
}

// P7.1 and R3: what is empty outside a kind is as good as nothing.
func TestEmptyOutside(t *testing.T) {
	for _, f := range someFrames() {
		want := mustEncode(t, f)
		if len(f.IDs) == 0 {
			f.IDs = []api.ID{}
		}
		if len(f.Ops) == 0 {
			f.Ops = [][]byte{}
		}
		if e := frame.Check(f); e != api.OK {
			t.Errorf("Check(%v) = %v", f, e)
		}
		if b := mustEncode(t, f); !bytes.Equal(b, want) {
			t.Errorf("Encode(%v) = %v, want %v", f, b, want)
		}
	}
}

// P7.1: from 0 to just MaxIDs ids, and from 0 to just MaxOps strings.
func TestHowMany(t *testing.T) {
	for n := range 2*maxList + 10 {
		want := api.OK
		if n > maxIDs {
			want = api.ErrBad
		}
		for _, kind := range idKinds() {
			if e := frame.Check(list(kind, ids(n))); e != want {
				t.Errorf("Check of %d ids = %v", n, e)
			}
		}
		want = api.OK
		if n > maxOps {
			want = api.ErrBad
		}
		if e := frame.Check(ops(make([][]byte, n)...)); e != want {
			t.Errorf("Check of %d strings = %v", n, e)
		}
	}
}

// P7.1: strings of from 0 to just MaxOpBytes bytes, wherever they stand.
func TestHowLong(t *testing.T) {
	for n := range maxOpBytes + 200 {
		want := api.OK
		if n > maxOpBytes {
			want = api.ErrBad
		}
		for at := range maxOps {
			l := make([][]byte, maxOps)
			l[at] = pattern(n)
			if e := frame.Check(ops(l...)); e != want {
				t.Errorf("Check of %d bytes at %d = %v", n, at, e)
			}
		}
	}
}

// P7.1: just MaxFrame bytes in all, with the bytes of the counts.
func TestHowManyBytes(t *testing.T) {
	checked := 0
	for n := 1900; n < 2100; n++ {
		want := api.OK
		if n > maxFrame {
			want = api.ErrBad
		}
		for _, strings := range filled(n) {
			if strings == nil || len(strings[len(strings)-1]) > maxOpBytes {
				continue
			}
			checked++
			f := ops(strings...)
			if e := frame.Check(f); e != want {
				t.Errorf("Check of %d bytes = %v", n, e)
			}
			if b, e := frame.Encode(f); e != want || e == api.OK && len(b) != n {
				t.Errorf("Encode of %d bytes = %d bytes, %v", n, len(b), e)
			}
		}
	}
	if checked < 1000 {
		t.Errorf("only %d frames were looked at", checked)
	}
	for _, n := range []int{maxFrame - 1, maxFrame, maxFrame + 1} {
		for i, strings := range filled(n) {
			if strings == nil || len(strings) > maxOps || len(strings[len(strings)-1]) > maxOpBytes {
				t.Errorf("the strings %d do not have %d bytes", i, n)
			}
		}
	}
}
