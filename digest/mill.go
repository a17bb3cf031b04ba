package digest

import "braid/api"

const (
	blockSize  = 64 // bytes that are ground at once
	lengthSize = 8  // bytes of the length at the end of the last block
	endMark    = 128
)

func valid(m api.Mill) bool {
	return m.N >= 0 && m.N <= api.MaxTotal && len(m.Rest) == m.N%blockSize
}

// put adds bytes to a valid mill that has room for them.
func put(m api.Mill, b []byte) api.Mill {
	// The bytes are joined in new memory: appending to Rest could write into what the caller keeps behind it.
	all := make([]byte, 0, len(m.Rest)+len(b))
	all = append(all, m.Rest...)
	all = append(all, b...)
	words, rest := grindAll(m.Words, all)
	return api.Mill{
		Words: words,
		// A copy, so that a few bytes do not hold on to all those that were ground.
		Rest: append([]byte(nil), rest...),
		N:    m.N + len(b),
	}
}

// finish grinds the end of a valid mill, and returns its digest.
func finish(m api.Mill) api.ID {
	words, _ := grindAll(m.Words, ending(m))
	var id api.ID
	for i, w := range words {
		putWord(id[4*i:], w)
	}
	return id
}

// ending returns the last bytes of a valid mill, filled up to one or two blocks.
func ending(m api.Mill) []byte {
	size := blockSize
	if len(m.Rest)+1+lengthSize > blockSize {
		size = 2 * blockSize
	}
	b := make([]byte, size)
	copy(b, m.Rest)
	b[len(m.Rest)] = endMark
	// MaxTotal bytes have fewer than 2^32 bits, so the upper four bytes of the length stay 0.
	putWord(b[size-4:], uint32(8*m.N))
	return b
}
