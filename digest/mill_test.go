package digest_test

import (
	"bytes"
	"crypto/sha256"
	"encoding"
	"encoding/binary"
	"math"
	"testing"

	"braid/api"
	"braid/digest"
)

// oracle returns the digest of a valid mill with any words, by the state that crypto/sha256 documents as one that can be stored.
func oracle(t *testing.T, m api.Mill) api.ID {
	t.Helper()
	state := []byte("sha\x03")
	for _, w := range m.Words {
		state = binary.BigEndian.AppendUint32(state, w)
	}
	var rest [64]byte
	copy(rest[:], m.Rest)
	state = append(state, rest[:]...)
	state = binary.BigEndian.AppendUint64(state, uint64(m.N))
	h := sha256.New()
	if err := h.(encoding.BinaryUnmarshaler).UnmarshalBinary(state); err != nil {
		t.Fatal(err)
	}
	return api.ID(h.Sum(nil))
}

// P1.2: the mill of no bytes.
func TestStart(t *testing.T) {
	want := [8]uint32{0x6a09e667, 0xbb67ae85, 0x3c6ef372, 0xa54ff53a, 0x510e527f, 0x9b05688c, 0x1f83d9ab, 0x5be0cd19}
	m := digest.Start()
	if m.Words != want || len(m.Rest) != 0 || m.N != 0 {
		t.Errorf("Start() = %+v", m)
	}
	if id := mustEnd(t, m); id != sha256.Sum256(nil) {
		t.Errorf("End(Start()) = %x", id)
	}
	// What a caller does to a mill must not reach the next one.
	m.Words[0] = 0
	if digest.Start().Words != want {
		t.Error("Start() was changed by its caller")
	}
}

// P1.2: after each number of bytes, Rest has those that fill no block, and End does not need more.
func TestAddLengths(t *testing.T) {
	all := pattern(300)
	for n := range len(all) + 1 {
		m := mustAdd(t, digest.Start(), all[:n])
		if m.N != n || !bytes.Equal(m.Rest, all[n-n%64:n]) {
			t.Errorf("a mill of %d bytes has N %d and Rest %x", n, m.N, m.Rest)
		}
		if id := mustEnd(t, m); id != sha256.Sum256(all[:n]) {
			t.Errorf("End after %d bytes = %x", n, id)
		}
	}
}

// P1.2 and the chapter's example: 65 bytes leave one.
func TestAddOneByOne(t *testing.T) {
	all := pattern(200)
	m := digest.Start()
	for i := range all {
		m = mustAdd(t, m, all[i:i+1])
		if whole := mustAdd(t, digest.Start(), all[:i+1]); !sameMill(m, whole) {
			t.Fatalf("after %d bytes one by one: %+v, want %+v", i+1, m, whole)
		}
		if m.N == 65 && !bytes.Equal(m.Rest, all[64:65]) {
			t.Errorf("after 65 bytes Rest is %x", m.Rest)
		}
	}
}

// P1.2: at most MaxTotal bytes in all, however they come.
func TestAddLimit(t *testing.T) {
	all := pattern(api.MaxTotal + 1)
	m := mustAdd(t, digest.Start(), all[:api.MaxTotal])
	want := sha256.Sum256(all[:api.MaxTotal])
	if id := mustEnd(t, m); m.N != api.MaxTotal || id != want {
		t.Errorf("End after MaxTotal bytes = %x, N %d", id, m.N)
	}
	if next := mustAdd(t, m, nil); !sameMill(next, m) {
		t.Error("adding nothing to a full mill changed it")
	}
	for _, b := range [][]byte{{1}, pattern(64), all} {
		if next, e := digest.Add(m, b); e != api.ErrMany || !zeroMill(next) {
			t.Errorf("Add of %d bytes to a full mill = %+v, %v", len(b), next, e)
		}
	}
	if next, e := digest.Add(digest.Start(), all); e != api.ErrMany || !zeroMill(next) {
		t.Errorf("Add of MaxTotal + 1 bytes = %+v, %v", next, e)
	}
	most := mustAdd(t, digest.Start(), all[:api.MaxTotal-1])
	if next, e := digest.Add(most, all[:2]); e != api.ErrMany || !zeroMill(next) {
		t.Errorf("Add of one byte too many = %+v, %v", next, e)
	}
	most = mustAdd(t, most, all[api.MaxTotal-1:api.MaxTotal])
	if id := mustEnd(t, most); id != want {
		t.Errorf("End after MaxTotal bytes in two pieces = %x", id)
	}
}

// P1.2: which mills are valid; R1: ErrBad comes before ErrMany.
func TestInvalidMills(t *testing.T) {
	words := digest.Start().Words
	for _, m := range []api.Mill{
		{Words: words, N: -1},
		{Words: words, N: -64},
		{Words: words, N: -63, Rest: pattern(1)},
		{Words: words, N: math.MinInt},
		{Words: words, N: math.MaxInt},
		{Words: words, N: math.MaxInt, Rest: pattern(math.MaxInt % 64)},
		{Words: words, N: math.MaxInt - 63},
		{Words: words, N: api.MaxTotal + 1, Rest: pattern((api.MaxTotal + 1) % 64)},
		{Words: words, N: api.MaxTotal + 64, Rest: pattern(api.MaxTotal % 64)},
		{Words: words, N: 0, Rest: pattern(1)},
		{Words: words, N: 0, Rest: pattern(64)},
		{Words: words, N: 1},
		{Words: words, N: 1, Rest: pattern(2)},
		{Words: words, N: 1, Rest: pattern(65)},
		{Words: words, N: 63, Rest: pattern(62)},
		{Words: words, N: 64, Rest: pattern(64)},
		{Words: words, N: 65, Rest: nil},
		{Words: words, N: 65, Rest: pattern(65)},
		{Words: words, N: 127, Rest: pattern(127)},
		{N: 128, Rest: pattern(128)},
	} {
		for _, b := range [][]byte{nil, {}, pattern(1), pattern(64), pattern(api.MaxTotal + 1)} {
			if next, e := digest.Add(m, b); e != api.ErrBad || !zeroMill(next) {
				t.Errorf("Add of %d bytes to a mill with N %d and %d in Rest = %+v, %v", len(b), m.N, len(m.Rest), next, e)
			}
		}
		if id, e := digest.End(m); e != api.ErrBad || id != (api.ID{}) {
			t.Errorf("End of a mill with N %d and %d in Rest = %x, %v", m.N, len(m.Rest), id, e)
		}
	}
}

// P1.2 and P1.4: a mill is its words, its rest and its number, wherever these are from; R3: an empty Rest is like none.
func TestMillsWithAnyWords(t *testing.T) {
	words := [8]uint32{0, 1, math.MaxUint32, 0x80000000, 0x12345678, 5, 6, 7}
	for _, n := range []int{0, 1, 55, 56, 63, 64, 65, 119, 120, 128, 129, 4096, 65536 + 9, api.MaxTotal - 1, api.MaxTotal} {
		for _, w := range [][8]uint32{{}, words, digest.Start().Words} {
			m := api.Mill{Words: w, Rest: pattern(n % 64), N: n}
			if id, want := mustEnd(t, m), oracle(t, m); id != want {
				t.Errorf("End of a mill of %d bytes with words %x = %x, want %x", n, w, id, want)
			}
			if next := mustAdd(t, m, nil); !sameMill(next, m) {
				t.Errorf("adding nothing to a mill of %d bytes gives %+v", n, next)
			}
			if next := mustAdd(t, m, []byte{}); !sameMill(next, m) {
				t.Errorf("adding an empty slice to a mill of %d bytes gives %+v", n, next)
			}
		}
	}
	empty := api.Mill{Words: words, Rest: []byte{}, N: 64}
	none := api.Mill{Words: words, N: 64}
	if mustEnd(t, empty) != mustEnd(t, none) || !sameMill(mustAdd(t, empty, pattern(70)), mustAdd(t, none, pattern(70))) {
		t.Error("an empty Rest is not like none")
	}
}

// P1.4: what was ground does not matter but for the words and the number of bytes.
func TestMillsForgetWhatWasGround(t *testing.T) {
	all := pattern(500)
	for _, n := range []int{64, 65, 127, 128, 200, 256} {
		m := mustAdd(t, digest.Start(), all[:n])
		again := api.Mill{Words: m.Words, Rest: bytes.Clone(all[n-n%64 : n]), N: n}
		if mustEnd(t, again) != sha256.Sum256(all[:n]) {
			t.Errorf("End of a mill of %d bytes put together by hand", n)
		}
		if id := mustEnd(t, mustAdd(t, again, all[n:])); id != sha256.Sum256(all) {
			t.Errorf("End after more bytes behind %d = %x", n, id)
		}
		// The number of bytes is a part of what is ground at last.
		again.N += 64
		if mustEnd(t, again) == mustEnd(t, m) {
			t.Errorf("End of a mill of %d bytes does not look at N", n)
		}
	}
}

// P1.4: wherever bytes are cut, mills and Pieces give the digest of the whole.
func TestCuts(t *testing.T) {
	all := pattern(200)
	want := sha256.Sum256(all)
	for i := range len(all) + 1 {
		for j := i; j <= len(all); j += 1 + i%7 {
			l := [][]byte{all[:i], all[i:j], all[j:]}
			m := digest.Start()
			for _, b := range l {
				m = mustAdd(t, m, b)
			}
			if id := mustEnd(t, m); id != want {
				t.Fatalf("a mill with cuts at %d and %d gives %x", i, j, id)
			}
			if id, e := digest.Pieces(l); e != api.OK || id != want {
				t.Fatalf("Pieces with cuts at %d and %d = %x, %v", i, j, id, e)
			}
		}
	}
}

// R2: mills and bytes stay as they were, and a mill can go on in more than one way.
func TestAddReadsOnly(t *testing.T) {
	for _, n := range []int{0, 1, 55, 63, 64, 70, 127} {
		for _, k := range []int{0, 1, 9, 64, 100} {
			rest, restMemory := roomy(pattern(n % 64))
			b, bMemory := roomy(pattern(k))
			restBefore, bBefore := bytes.Clone(restMemory), bytes.Clone(bMemory)
			m := api.Mill{Words: digest.Start().Words, Rest: rest, N: n}
			one := mustAdd(t, m, b)
			other := mustAdd(t, m, pattern(k+1))
			again := mustAdd(t, m, b)
			mustEnd(t, m)
			if !bytes.Equal(restMemory, restBefore) || !bytes.Equal(bMemory, bBefore) || m.N != n {
				t.Errorf("Add of %d bytes to a mill of %d changed its arguments", k, n)
			}
			if !sameMill(one, again) {
				t.Errorf("Add of %d bytes to a mill of %d twice: %+v and %+v", k, n, one, again)
			}
			checkOwn(t, one, restMemory, bMemory, other.Rest, again.Rest)
		}
	}
}

// checkOwn fails if writing into the memory of a mill's Rest can be seen in any other memory, or the other way round.
func checkOwn(t *testing.T, m api.Mill, others ...[]byte) {
	t.Helper()
	var before [][]byte
	for _, o := range others {
		before = append(before, bytes.Clone(o[:cap(o)]))
	}
	flip(m.Rest)
	for i, o := range others {
		if !bytes.Equal(o[:cap(o)], before[i]) {
			t.Errorf("the result of Add shares memory (%d)", i)
		}
	}
	seen := bytes.Clone(m.Rest)
	for _, o := range others {
		flip(o)
	}
	if !bytes.Equal(m.Rest, seen) {
		t.Error("the result of Add is changed by what it was made of")
	}
}

// flip changes all of the memory of b, up to its capacity.
func flip(b []byte) {
	b = b[:cap(b)]
	for i := range b {
		b[i] ^= 0xff
	}
}
