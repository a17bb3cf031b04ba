package wire_test

import (
	"bytes"
	"math"
	"slices"
	"testing"

	"braid/api"
	"braid/wire"
)

// fineStrings returns strings of bytes of at most MaxPiece bytes, around the ends of the lengths of their numbers.
func fineStrings() [][]byte {
	l := [][]byte{nil, {}, {0}, {255}, {1, 0}, []byte("ab"), []byte("\xff\xfe\x00 no text")}
	for _, n := range []int{31, 32, 246, 247, 248, 249, 255, 256, 257, 1000, api.MaxPiece - 1, api.MaxPiece} {
		l = append(l, pattern(n))
	}
	return l
}

// P4.2: the bytes of strings, the chapter's example among them.
func TestBytes(t *testing.T) {
	for _, c := range []struct{ s, want []byte }{
		{nil, []byte{0}},
		{[]byte{}, []byte{0}},
		{[]byte{0}, []byte{1, 0}},
		{[]byte("ab"), []byte{2, 97, 98}},
		{pattern(247), append([]byte{247}, pattern(247)...)},
		{pattern(248), append([]byte{248, 248}, pattern(248)...)},
		{pattern(256), append([]byte{249, 1, 0}, pattern(256)...)},
		{pattern(api.MaxPiece), append([]byte{249, 39, 16}, pattern(api.MaxPiece)...)},
	} {
		if b := mustBytes(t, c.s); !bytes.Equal(b, c.want) {
			t.Errorf("Bytes of %d bytes = %v", len(c.s), b)
		}
	}
	for _, s := range fineStrings() {
		if b := mustBytes(t, s); !bytes.Equal(b, wantBytes(s)) {
			t.Errorf("Bytes of %d bytes = %v", len(s), b)
		}
	}
}

// P4.2: ErrMany for more than MaxPiece bytes, and nothing with it.
func TestBytesMany(t *testing.T) {
	for _, n := range []int{api.MaxPiece + 1, api.MaxPiece + 2, 1 << 16, api.MaxTotal} {
		if b, e := wire.Bytes(pattern(n)); e != api.ErrMany || len(b) != 0 {
			t.Errorf("Bytes of %d bytes = %d bytes, %v", n, len(b), e)
		}
	}
}

// P4.2: a string is read where most is as much as it has, or more, and not where it is less.
func TestReadBytes(t *testing.T) {
	for _, s := range fineStrings() {
		for _, tail := range tails() {
			b := slices.Concat(wantBytes(s), tail)
			for _, most := range []int{len(s), len(s) + 1, 2*len(s) + 5, math.MaxInt32, math.MaxInt} {
				got, used, e := wire.ReadBytes(b, most)
				if e != api.OK || !bytes.Equal(got, s) || used != len(b)-len(tail) {
					t.Errorf("ReadBytes of %d bytes, at most %d = %v, %d, %v", len(s), most, got, used, e)
				}
			}
			for _, most := range []int{0, 1, len(s) / 2, len(s) - 1} {
				if most >= 0 && most < len(s) {
					noBytes(t, b, most, api.ErrForm)
				}
			}
		}
	}
}

// P4.2: only most limits what is read: also strings of more than MaxPiece bytes are strings.
func TestReadLongBytes(t *testing.T) {
	for _, n := range []int{api.MaxPiece + 1, 1<<16 - 1, 1 << 16, api.MaxTotal} {
		s := pattern(n)
		got, used, e := wire.ReadBytes(append(wantBytes(s), 7), n)
		if e != api.OK || !bytes.Equal(got, s) || used != len(wantBytes(s)) {
			t.Errorf("ReadBytes of %d bytes = %d bytes, %d, %v", n, len(got), used, e)
		}
		noBytes(t, wantBytes(s), n-1, api.ErrForm)
		noBytes(t, wantBytes(s), api.MaxPiece, api.ErrForm)
	}
}

// P4.2: ErrArg for a most of less than 0, before all else; most 0 is fine.
func TestReadBytesMost(t *testing.T) {
	for _, most := range []int{-1, -2, -248, math.MinInt32, math.MinInt} {
		for _, b := range [][]byte{nil, {}, {0}, {1}, {2, 97, 98}, {248, 247}, {255}, wantBytes(pattern(300)), wantNumber(math.MaxUint64)} {
			noBytes(t, b, most, api.ErrArg)
		}
	}
	if s, used, e := wire.ReadBytes([]byte{0, 5}, 0); e != api.OK || len(s) != 0 || used != 1 {
		t.Errorf("ReadBytes of no bytes, at most 0 = %v, %d, %v", s, used, e)
	}
	noBytes(t, []byte{1, 5}, 0, api.ErrForm)
	noBytes(t, nil, 0, api.ErrForm)
}

// P4.2: ErrForm where there is no string: no number, one that is too long, or fewer bytes than it says.
func TestNoBytes(t *testing.T) {
	for _, b := range noNumbers() {
		noBytes(t, b, math.MaxInt, api.ErrForm)
	}
	for _, b := range [][]byte{{1}, {2, 97}, {247, 1}, {248, 2, 97, 98}, {249, 0, 2, 97, 98}, {255, 0, 0, 0, 0, 0, 0, 0, 2, 97, 98}} {
		noBytes(t, b, math.MaxInt, api.ErrForm)
	}
	for _, s := range fineStrings() {
		b := wantBytes(s)
		for i := range b {
			noBytes(t, b[:i], math.MaxInt, api.ErrForm)
		}
	}
}

// P4.2 and R7: numbers of bytes that no memory has, also those that are less than 0 as an int.
func TestGreatBytes(t *testing.T) {
	for _, n := range []uint64{1 << 31, 1 << 32, 1<<32 + 2, 1<<62 + 2, math.MaxInt64 - 8, math.MaxInt64, 1 << 63, 1<<63 + 2, math.MaxUint64 - 1, math.MaxUint64} {
		for _, most := range []int{0, 1, 2, 100, math.MaxInt} {
			noBytes(t, append(wantNumber(n), pattern(100)...), most, api.ErrForm)
			noBytes(t, append(wantNumber(n), 1, 2), most, api.ErrForm)
		}
	}
}
