package sign

import (
	"braid/api"
	"braid/digest"
)

// What is hashed for different ends begins with different bytes.
const (
	nonceMark     = 110 // n
	challengeMark = 99  // c
)

// maxMessage is what a piece has room for behind the mark and the two numbers of a challenge.
const maxMessage = api.MaxPiece - 9

func tooLong(m []byte) bool {
	return len(m) > maxMessage
}

// hash returns the number of the digest of a mark, numbers of four bytes, and a message that is not too long.
func hash(mark byte, m []byte, numbers ...uint32) uint64 {
	head := []byte{mark}
	for _, x := range numbers {
		head = append(head, byte(x>>24), byte(x>>16), byte(x>>8), byte(x))
	}
	// Two pieces, so that the message need not be copied; both are short enough, so there is no error.
	id, _ := digest.Pieces([][]byte{head, m})
	return numberOf(id)
}

// numberOf returns the number of a digest: its first eight bytes, the highest one first.
func numberOf(id api.ID) uint64 {
	n := uint64(0)
	for _, b := range id[:8] {
		n = n<<8 | uint64(b)
	}
	return n
}
