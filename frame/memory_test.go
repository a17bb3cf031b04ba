package frame_test

import (
	"bytes"
	"slices"
	"testing"

	"braid/api"
	"braid/frame"
)

// deep returns a copy of a frame that shares no memory with it.
func deep(f api.Frame) api.Frame {
	f.IDs = slices.Clone(f.IDs)
	f.Ops = slices.Clone(f.Ops)
	for i := range f.Ops {
		f.Ops[i] = bytes.Clone(f.Ops[i])
	}
	return f
}

// roomy returns a frame like f that has something between the length and the capacity of each list and string, and the same frame with all of this memory.
func roomy(f api.Frame) (part, all api.Frame) {
	part, all = f, f
	all.IDs = slices.Concat(f.IDs, make([]api.ID, 3), ids(3))
	part.IDs = all.IDs[:len(f.IDs)]
	all.Ops = nil
	var strings [][]byte
	for _, s := range append(slices.Clone(f.Ops), []byte("more"), []byte("and more")) {
		memory := append(bytes.Clone(s), pattern(50)...)
		all.Ops = append(all.Ops, memory)
		strings = append(strings, memory[:len(s)])
	}
	part.Ops = strings[:len(f.Ops)]
	return part, all
}

// P7.1 and R2: frames stay as they were, also those that are refused, with the memory up to each capacity; what is done twice gives the same.
func TestFramesReadOnly(t *testing.T) {
	for _, f := range slices.Concat(fineFrames(), badFrames()) {
		part, all := roomy(f)
		beyond := part.Ops[:cap(part.Ops)]
		before, after := deep(all), deep(api.Frame{Ops: beyond})
		e := frame.Check(part)
		b, _ := frame.Encode(part)
		again, f := frame.Encode(part)
		if !same(all, before) || !slices.EqualFunc(beyond, after.Ops, bytes.Equal) {
			t.Errorf("a frame of the kind %d was changed", part.Kind)
		}
		if frame.Check(part) != e || f != e || !bytes.Equal(b, again) {
			t.Errorf("a frame of the kind %d has %v and %v", part.Kind, e, f)
		}
	}
}

// R2: bytes share no memory with frames, or with each other, up to their capacity.
func TestEncodeMemory(t *testing.T) {
	for _, f := range fineFrames() {
		part, all := roomy(f)
		before := deep(all)
		one, two := mustEncode(t, part), mustEncode(t, part)
		for i := range one[:cap(one)] {
			one[:cap(one)][i] ^= 0xff
		}
		if !same(all, before) {
			t.Errorf("writing into the bytes of the kind %d changed the frame", f.Kind)
		}
		if !bytes.Equal(two, wantBytes(f)) || !bytes.Equal(mustEncode(t, part), two) {
			t.Errorf("the bytes of two calls share memory")
		}
		clear(all.IDs)
		for _, s := range all.Ops {
			clear(s)
		}
		if !bytes.Equal(two, wantBytes(f)) {
			t.Errorf("writing into a frame of the kind %d changed the bytes", f.Kind)
		}
	}
}

// P7.2 and R2: bytes stay as they were, those that are no frame too, with the memory up to their capacity.
func TestParseReadOnly(t *testing.T) {
	whole := [][]byte{nil, {1}, {7, 0}, {5, 3, 1, 9}, pattern(maxFrame + 1)}
	for _, f := range slices.Concat(fineFrames(), badLists()) {
		whole = append(whole, wantBytes(f))
	}
	for _, b := range whole {
		for _, cut := range []int{0, 1, 33} {
			size := max(0, len(b)-cut)
			memory := append(bytes.Clone(b), pattern(80)...)
			before := bytes.Clone(memory)
			one, e := frame.Parse(memory[:size])
			two, again := frame.Parse(memory[:size])
			if !bytes.Equal(memory, before) {
				t.Errorf("%d bytes were changed", size)
			}
			if e != again || !same(one, two) {
				t.Errorf("%d bytes are %v and %v", size, e, again)
			}
		}
	}
}

// P7.2 and R2: a frame that was read shares no memory with the bytes, nor with another one.
func TestParseMemory(t *testing.T) {
	for _, f := range fineFrames() {
		memory := append(wantBytes(f), pattern(80)...)
		before := bytes.Clone(memory)
		b := memory[:len(memory)-80]
		one, two := mustParse(t, b), mustParse(t, b)
		spoil(two)
		if !bytes.Equal(memory, before) {
			t.Errorf("writing into a frame of the kind %d changed the bytes", f.Kind)
		}
		clear(memory)
		if !same(one, f) {
			t.Errorf("%v has become %v", f, one)
		}
	}
}

// spoil changes all of the memory of a frame, up to each capacity.
func spoil(f api.Frame) {
	for _, s := range f.Ops {
		for i := range s[:cap(s)] {
			s[:cap(s)][i] ^= 0xff
		}
	}
	clear(f.Ops[:cap(f.Ops)])
	for i := range f.IDs[:cap(f.IDs)] {
		f.IDs[:cap(f.IDs)][i] = api.ID{0xa5}
	}
}

// R2: the strings of a frame that was read share no memory with each other, up to their capacity.
func TestStringsMemory(t *testing.T) {
	for _, strings := range fineStrings() {
		for i := range strings {
			f := mustParse(t, wantBytes(ops(strings...)))
			s := f.Ops[i]
			for j := range s[:cap(s)] {
				s[:cap(s)][j] ^= 0xff
			}
			f.Ops[i] = strings[i]
			if !same(f, ops(strings...)) {
				t.Errorf("the string %d of %d shares memory", i, len(strings))
			}
		}
	}
}

// P7.3 and R2: lists stay as they were, also those that are refused, with the memory up to their capacity.
func TestSplitReadOnly(t *testing.T) {
	for _, l := range slices.Concat(disorders(3), disorders(maxList), fineLists(), [][]api.ID{ids(41), ids(maxList), ids(maxList + 1), make([]api.ID, 100)}) {
		memory := append(slices.Clone(l), ids(50)...)
		before := slices.Clone(memory)
		for kind := range uint8(8) {
			one, e := frame.Split(memory[:len(l)], kind)
			two, again := frame.Split(memory[:len(l)], kind)
			if e != again || !slices.EqualFunc(one, two, same) {
				t.Errorf("Split of %d ids twice: %v and %v", len(l), e, again)
			}
		}
		if !slices.Equal(memory, before) {
			t.Errorf("Split of %d ids changed them", len(l))
		}
	}
}

// P7.3 and R2: frames share no memory with the list that was split, with each other, or with those of another call.
func TestSplitMemory(t *testing.T) {
	for _, n := range []int{0, 1, 2, maxIDs - 1, maxIDs, maxIDs + 1, maxList} {
		for spoiled := range mustSplit(t, ids(n), 2) {
			memory := append(ids(n), ids(50)...)
			before := slices.Clone(memory)
			one, two := mustSplit(t, memory[:n], 2), mustSplit(t, memory[:n], 2)
			spoil(one[spoiled])
			one[spoiled].IDs = append(one[spoiled].IDs, api.ID{1})
			if !slices.Equal(memory, before) {
				t.Errorf("writing into a frame of %d ids changed the list", n)
			}
			clear(memory)
			if !slices.EqualFunc(two, mustSplit(t, ids(n), 2), same) {
				t.Errorf("frames of %d ids share memory with the list, or with others", n)
			}
			for i := range one {
				if i != spoiled && !same(one[i], two[i]) {
					t.Errorf("the frames %d and %d of %d ids share memory", spoiled, i, n)
				}
			}
			clear(one[:cap(one)])
			if !slices.EqualFunc(two, mustSplit(t, ids(n), 2), same) {
				t.Errorf("the lists of frames of two calls share memory")
			}
		}
	}
}
