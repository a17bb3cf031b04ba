package digest

import "math/bits"

var firstWords = [8]uint32{
	0x6a09e667, 0xbb67ae85, 0x3c6ef372, 0xa54ff53a, 0x510e527f, 0x9b05688c, 0x1f83d9ab, 0x5be0cd19,
}

var constants = [64]uint32{
	0x428a2f98, 0x71374491, 0xb5c0fbcf, 0xe9b5dba5, 0x3956c25b, 0x59f111f1, 0x923f82a4, 0xab1c5ed5,
	0xd807aa98, 0x12835b01, 0x243185be, 0x550c7dc3, 0x72be5d74, 0x80deb1fe, 0x9bdc06a7, 0xc19bf174,
	0xe49b69c1, 0xefbe4786, 0x0fc19dc6, 0x240ca1cc, 0x2de92c6f, 0x4a7484aa, 0x5cb0a9dc, 0x76f988da,
	0x983e5152, 0xa831c66d, 0xb00327c8, 0xbf597fc7, 0xc6e00bf3, 0xd5a79147, 0x06ca6351, 0x14292967,
	0x27b70a85, 0x2e1b2138, 0x4d2c6dfc, 0x53380d13, 0x650a7354, 0x766a0abb, 0x81c2c92e, 0x92722c85,
	0xa2bfe8a1, 0xa81a664b, 0xc24b8b70, 0xc76c51a3, 0xd192e819, 0xd6990624, 0xf40e3585, 0x106aa070,
	0x19a4c116, 0x1e376c08, 0x2748774c, 0x34b0bcb5, 0x391c0cb3, 0x4ed8aa4a, 0x5b9cca4f, 0x682e6ff3,
	0x748f82ee, 0x78a5636f, 0x84c87814, 0x8cc70208, 0x90befffa, 0xa4506ceb, 0xbef9a3f7, 0xc67178f2,
}

// grindAll grinds all whole blocks, and returns the words and the bytes that are left.
func grindAll(h [8]uint32, b []byte) ([8]uint32, []byte) {
	for len(b) >= blockSize {
		h = grind(h, spread(b[:blockSize]))
		b = b[blockSize:]
	}
	return h, b
}

// spread makes the 64 words of a block.
func spread(block []byte) [64]uint32 {
	var w [64]uint32
	for t := range 16 {
		w[t] = wordOf(block[4*t:])
	}
	for t := 16; t < len(w); t++ {
		x, y := w[t-15], w[t-2]
		s0 := turn(x, 7) ^ turn(x, 18) ^ x>>3
		s1 := turn(y, 17) ^ turn(y, 19) ^ y>>10
		w[t] = w[t-16] + w[t-7] + s0 + s1
	}
	return w
}

// grind grinds the words of a block into h.
func grind(h [8]uint32, w [64]uint32) [8]uint32 {
	a, b, c, d, e, f, g, z := h[0], h[1], h[2], h[3], h[4], h[5], h[6], h[7]
	for t, k := range constants {
		choice := e&f ^ ^e&g
		majority := a&b ^ a&c ^ b&c
		p := z + (turn(e, 6) ^ turn(e, 11) ^ turn(e, 25)) + choice + k + w[t]
		q := (turn(a, 2) ^ turn(a, 13) ^ turn(a, 22)) + majority
		z, g, f, e = g, f, e, d+p
		d, c, b, a = c, b, a, p+q
	}
	for i, x := range [8]uint32{a, b, c, d, e, f, g, z} {
		h[i] += x
	}
	return h
}

// turn turns a word right by n.
func turn(w uint32, n int) uint32 {
	return bits.RotateLeft32(w, -n)
}

// wordOf reads a word, the highest byte first.
func wordOf(b []byte) uint32 {
	return uint32(b[0])<<24 | uint32(b[1])<<16 | uint32(b[2])<<8 | uint32(b[3])
}

// putWord writes a word, the highest byte first.
func putWord(b []byte, w uint32) {
	b[0] = byte(w >> 24)
	b[1] = byte(w >> 16)
	b[2] = byte(w >> 8)
	b[3] = byte(w)
}
