package judge_test

import (
	"bytes"
	"slices"
	"testing"

	"braid/api"
	"braid/judge"
)

// manyBytes returns bytes with each verdict, with acts of each kind.
func manyBytes() [][]byte {
	l, _ := kinds()
	for _, o := range someOps() {
		l = append(l, wantBytes(o))
		o.Sig.E = (o.Sig.E + 1) % order
		l = append(l, wantBytes(o), wantBytes(o)[1:])
	}
	return l
}

// roomy returns a copy of bytes that has others between its length and its capacity, and all of its memory.
func roomy(b []byte) (part, all []byte) {
	all = append(bytes.Clone(b), bytes.Repeat([]byte{0xa5}, 40)...)
	return all[:len(b)], all
}

// R2: bytes stay as they were, with the memory up to their capacity; what is done twice gives the same.
func TestReadOnly(t *testing.T) {
	for _, b := range manyBytes() {
		part, all := roomy(b)
		before := bytes.Clone(all)
		one, id, verdict := judge.Of(part)
		two, idTwo, verdictTwo := judge.Of(part)
		if !same(one, two) || id != idTwo || verdict != verdictTwo || judge.Fine(part) != judge.Fine(part) {
			t.Errorf("%s have %v and %v", some(b), one, two)
		}
		if !bytes.Equal(all, before) {
			t.Errorf("%s were changed", some(b))
		}
	}
}

// R2: lists stay as they were, those that are refused too, with all memory up to each capacity.
func TestListsReadOnly(t *testing.T) {
	whole := manyBytes()
	for _, n := range []int{0, 1, len(whole), maxList, maxList + 1, 100} {
		var list, memory, before [][]byte
		for i := range n + 5 {
			part, all := roomy(whole[i%len(whole)])
			list, memory, before = append(list, part), append(memory, all), append(before, bytes.Clone(all))
		}
		was := slices.Clone(list)
		one, e := judge.Many(list[:n])
		two, f := judge.Many(list[:n])
		counts, g := judge.Count(list[:n])
		again, h := judge.Count(list[:n])
		if e != f || g != h || e != g || counts != again || !slices.Equal(one, two) {
			t.Errorf("lists of %d have %v, %v, %v and %v, %v, %v", n, one, counts, e, two, again, f)
		}
		if !slices.EqualFunc(memory, before, bytes.Equal) {
			t.Errorf("bytes of a list of %d were changed", n)
		}
		for i := range list {
			if len(list[i]) != len(was[i]) || &list[i][:1][0] != &was[i][:1][0] {
				t.Errorf("the place %d of a list of %d was changed", i, n)
			}
		}
	}
}

// R2: an operation shares no memory with the bytes, nor with that of another call.
func TestOfMemory(t *testing.T) {
	for _, want := range someOps() {
		part, all := roomy(wantBytes(want))
		before := bytes.Clone(all)
		one, id, _ := judge.Of(part)
		two, _, _ := judge.Of(part)
		clear(two.Preds[:cap(two.Preds)])
		two.Preds = append(two.Preds, api.ID{1})
		if !bytes.Equal(all, before) {
			t.Errorf("writing into %v has changed its bytes", want)
		}
		clear(all)
		if !same(one, want) || id == (api.ID{}) {
			t.Errorf("%v has become %v", want, one)
		}
	}
}

// R2: verdicts share no memory with the list, nor with those of another call.
func TestManyMemory(t *testing.T) {
	list, want := kinds()
	one, _ := judge.Many(list)
	two, _ := judge.Many(list)
	spare := two[:cap(two)]
	for i := range spare {
		spare[i] ^= 0xff
	}
	clear(list)
	if !slices.Equal(one, want) {
		t.Errorf("the verdicts %v have become %v", want, one)
	}
}

// R2: a list may have the same memory several times, and parts of it that overlap.
func TestOverlap(t *testing.T) {
	o := someOps()[3]
	b := wantBytes(o)
	memory := slices.Concat(b, badBytes(), b)
	n := len(b)
	checkList(t, [][]byte{memory[:n], memory[:n], memory[1:n], memory[n : n+7], memory, memory[n+7:], memory[n:]},
		[]uint8{fine, fine, malformed, badSig, malformed, fine, malformed})
	if !bytes.Equal(memory, slices.Concat(b, badBytes(), b)) {
		t.Error("the memory was changed")
	}
}
