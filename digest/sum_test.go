package digest_test

import (
	"bytes"
	"crypto/sha256"
	"encoding/hex"
	"strings"
	"testing"

	"braid/api"
	"braid/digest"
)

// P1.1: published digests, those of the chapter's examples among them.
func TestSumKnown(t *testing.T) {
	for _, c := range []struct{ text, want string }{
		{"", "e3b0c44298fc1c149afbf4c8996fb92427ae41e4649b934ca495991b7852b855"},
		{"a", "ca978112ca1bbdcafac231b39a23dc4da786eff8147c4e72b9807785afee48bb"},
		{"abc", "ba7816bf8f01cfea414140de5dae2223b00361a396177a9cb410ff61f20015ad"},
		{"abcdbcdecdefdefgefghfghighijhijkijkljklmklmnlmnomnopnopq", "248d6a61d20638b8e5c026930c3e6039a33ce45964ff2167f6ecedd419db06c1"},
		{
			"abcdefghbcdefghicdefghijdefghijkefghijklfghijklmghijklmnhijklmnoijklmnopjklmnopqklmnopqrlmnopqrsmnopqrstnopqrstu",
			"cf5b16a778af8380036ce59e7b0492370b249b11e8f07a51afac45037afee9d1",
		},
		{strings.Repeat("a", 1000), "41edece42d63e8d9bf515a9ba6932e1c20cbc9f5a5d134645adb5db1b9737ea3"},
	} {
		id, e := digest.Sum([]byte(c.text))
		if got := hex.EncodeToString(id[:]); e != api.OK || got != c.want {
			t.Errorf("Sum(%q) = %s, %v, want %s", c.text, got, e, c.want)
		}
	}
}

// P1.1: every length over several blocks, so also 55, 56, 63, 64, 65, 127, 128 and 129 bytes.
func TestSumLengths(t *testing.T) {
	for n := range 300 {
		b := pattern(n)
		if id, e := digest.Sum(b); e != api.OK || id != sha256.Sum256(b) {
			t.Errorf("Sum of %d bytes = %x, %v", n, id, e)
		}
	}
}

// P1.1: exactly MaxPiece bytes, and one more or less.
func TestSumLimit(t *testing.T) {
	for _, n := range []int{api.MaxPiece - 1, api.MaxPiece} {
		b := pattern(n)
		if id, e := digest.Sum(b); e != api.OK || id != sha256.Sum256(b) {
			t.Errorf("Sum of %d bytes = %x, %v", n, id, e)
		}
	}
	for _, n := range []int{api.MaxPiece + 1, api.MaxTotal, api.MaxTotal + 1} {
		if id, e := digest.Sum(pattern(n)); e != api.ErrMany || id != (api.ID{}) {
			t.Errorf("Sum of %d bytes = %x, %v, want ErrMany and no id", n, id, e)
		}
	}
}

// P1.1: pieces are taken one behind the other.
func TestPieces(t *testing.T) {
	for _, l := range [][][]byte{
		nil,
		{},
		{nil},
		{{}, nil, {}},
		{[]byte("a"), nil, []byte("bc")},
		{[]byte("a"), {}, []byte("bc")},
		{[]byte("bc"), []byte("a")},
		{pattern(64)},
		{pattern(63), pattern(1)},
		{pattern(65), pattern(127), pattern(0), pattern(200)},
		{pattern(api.MaxPiece), pattern(1)},
	} {
		want := sha256.Sum256(bytes.Join(l, nil))
		if id, e := digest.Pieces(l); e != api.OK || id != want {
			t.Errorf("Pieces of %d pieces = %x, %v, want %x", len(l), id, e, want)
		}
	}
}

// P1.1: MaxPieces pieces, MaxPiece bytes in each of them, and one more of each.
func TestPiecesLimits(t *testing.T) {
	full := make([][]byte, api.MaxPieces)
	for i := range full {
		full[i] = pattern(api.MaxPiece - i)
	}
	full[api.MaxPieces-1] = pattern(api.MaxPiece)
	want := sha256.Sum256(bytes.Join(full, nil))
	if id, e := digest.Pieces(full); e != api.OK || id != want {
		t.Errorf("Pieces of the most pieces = %x, %v, want %x", id, e, want)
	}
	most := make([][]byte, api.MaxPieces)
	for i := range most {
		most[i] = pattern(api.MaxPiece)
	}
	want = sha256.Sum256(bytes.Join(most, nil))
	if id, e := digest.Pieces(most); e != api.OK || id != want {
		t.Errorf("Pieces of the most bytes = %x, %v, want %x", id, e, want)
	}
	if id, e := digest.Pieces(make([][]byte, api.MaxPieces+1)); e != api.ErrMany || id != (api.ID{}) {
		t.Errorf("Pieces of one piece too many = %x, %v", id, e)
	}
	for at := range api.MaxPieces {
		l := make([][]byte, api.MaxPieces)
		l[at] = pattern(api.MaxPiece + 1)
		if id, e := digest.Pieces(l); e != api.ErrMany || id != (api.ID{}) {
			t.Errorf("Pieces with a byte too many at %d = %x, %v", at, id, e)
		}
	}
}

// R2: arguments stay as they were, with the memory up to their capacity.
func TestSumReadsOnly(t *testing.T) {
	for _, n := range []int{0, 1, 55, 56, 64, 65} {
		part, all := roomy(pattern(n))
		before := bytes.Clone(all)
		l := [][]byte{part, part, {7}}
		for range 2 {
			digest.Sum(part)
			digest.Pieces(l[:2])
		}
		if !bytes.Equal(all, before) {
			t.Errorf("%d bytes were changed", n)
		}
		if !bytes.Equal(l[0], before[:n]) || !bytes.Equal(l[1], before[:n]) || !bytes.Equal(l[2], []byte{7}) {
			t.Errorf("the list of pieces of %d bytes was changed", n)
		}
	}
}
