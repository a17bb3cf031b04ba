package sign_test

import (
	"bytes"
	"crypto/sha256"
	"encoding/binary"
	"math"
	"math/big"
	"testing"

	"braid/api"
	"braid/sign"
)

const (
	modulus    = api.GroupP
	order      = api.GroupQ
	maxMessage = 9991
)

var (
	bigP = big.NewInt(modulus)
	bigQ = big.NewInt(order)
)

// pattern returns n bytes that have no short period, so that bytes in the wrong place are noticed.
func pattern(n int) []byte {
	b := make([]byte, n)
	x := uint32(n)*2654435761 + 1
	for i := range b {
		x = x*1664525 + 1013904223
		b[i] = byte(x >> 24)
	}
	return b
}

// messages returns messages that are not too long: none, short ones, ones around the blocks of the digest, and the longest.
func messages() [][]byte {
	l := [][]byte{nil, {}, {0}, {0, 0}, {110}, {99}, {255}, []byte("a"), []byte("abc"), []byte("a message")}
	for _, n := range []int{46, 47, 50, 51, 54, 55, 56, 59, 63, 64, 65, 200, maxMessage - 1, maxMessage} {
		l = append(l, pattern(n))
	}
	return append(l, make([]byte, maxMessage), bytes.Repeat([]byte{255}, maxMessage))
}

// tooLong returns messages of more than MaxPiece - 9 bytes: where the challenge has no room for them, where the nonce has none, and longer ones.
func tooLong() [][]byte {
	var l [][]byte
	for _, n := range []int{maxMessage + 1, maxMessage + 3, maxMessage + 4, maxMessage + 5, maxMessage + 6, api.MaxPiece, api.MaxPiece + 1, api.MaxTotal + 1} {
		l = append(l, pattern(n))
	}
	return l
}

// secrets returns secrets, the least and the greatest ones among them.
func secrets() []uint32 {
	return []uint32{1, 2, 3, 15, 77, 255, 256, 65535, 65536, 0x01020304, 123456789, order / 2, order/2 + 1, order - 2, order - 1}
}

// noSecrets returns numbers that are no secrets.
func noSecrets() []uint32 {
	return []uint32{0, order, order + 1, order + 77, 2 * order, 2*order + 1, modulus - 1, modulus, modulus + 1, 8 * order, math.MaxInt32, math.MaxInt32 + 1, math.MaxUint32 - 1, math.MaxUint32}
}

// strangers returns numbers that are not in the group; the remainders of some of them are.
func strangers() []uint32 {
	return []uint32{0, 5, 10, modulus - 1, modulus - 4, modulus, modulus + 1, modulus + 4, modulus + 16, 2*modulus + 4, 4*modulus + 16, math.MaxInt32, math.MaxUint32}
}

// numberOf is the number of a digest, by the standard library's digest.
func numberOf(mark byte, m []byte, numbers ...uint32) *big.Int {
	b := []byte{mark}
	for _, x := range numbers {
		b = binary.BigEndian.AppendUint32(b, x)
	}
	sum := sha256.Sum256(append(b, m...))
	return new(big.Int).SetBytes(sum[:8])
}

func wantNonce(secret uint32, m []byte) uint32 {
	n := numberOf('n', m, secret)
	return uint32(n.Mod(n, big.NewInt(order-1)).Uint64()) + 1
}

func wantChallenge(r, public uint32, m []byte) uint32 {
	n := numberOf('c', m, r, public)
	return uint32(n.Mod(n, bigQ).Uint64())
}

func wantPower(a uint32, n uint64) uint32 {
	x := new(big.Int).SetUint64(n)
	return uint32(x.Exp(big.NewInt(int64(a)), x, bigP).Uint64())
}

// signWith is the signature that the number k makes instead of the nonce.
func signWith(k, secret uint32, m []byte) api.Sig {
	e := wantChallenge(wantPower(4, uint64(k)), wantPower(4, uint64(secret)), m)
	s := big.NewInt(int64(e))
	s.Mul(s, big.NewInt(int64(secret)))
	s.Add(s, big.NewInt(int64(k)))
	return api.Sig{E: e, S: uint32(s.Mod(s, bigQ).Uint64())}
}

// wantRight is the definition of a right signature, by math/big.
func wantRight(public uint32, m []byte, s api.Sig) bool {
	inverse := new(big.Int).ModInverse(big.NewInt(int64(wantPower(public, uint64(s.E)))), bigP)
	r := inverse.Mul(inverse, big.NewInt(int64(wantPower(4, uint64(s.S)))))
	return s.E < order && s.S < order && s.E == wantChallenge(uint32(r.Mod(r, bigP).Uint64()), public, m)
}

// The must functions fail where there is an error.
func mustPublic(t *testing.T, secret uint32) uint32 {
	t.Helper()
	y, e := sign.Public(secret)
	if e != api.OK {
		t.Fatalf("Public(%d): %v", secret, e)
	}
	return y
}

func mustNonce(t *testing.T, secret uint32, m []byte) uint32 {
	t.Helper()
	k, e := sign.Nonce(secret, m)
	if e != api.OK {
		t.Fatalf("Nonce(%d) of %d bytes: %v", secret, len(m), e)
	}
	return k
}

func mustChallenge(t *testing.T, r, public uint32, m []byte) uint32 {
	t.Helper()
	c, e := sign.Challenge(r, public, m)
	if e != api.OK {
		t.Fatalf("Challenge(%d, %d) of %d bytes: %v", r, public, len(m), e)
	}
	return c
}

func mustSign(t *testing.T, secret uint32, m []byte) api.Sig {
	t.Helper()
	s, e := sign.Sign(secret, m)
	if e != api.OK {
		t.Fatalf("Sign(%d) of %d bytes: %v", secret, len(m), e)
	}
	return s
}
