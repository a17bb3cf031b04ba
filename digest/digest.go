// Package digest is layer 1: see shared/doc/01-digest.md.
package digest

import (
	"bytes"

	"braid/api"
)

// Sum returns the digest of at most MaxPiece bytes.
func Sum(b []byte) (api.ID, api.Errno) {
	return Pieces([][]byte{b})
}

// Pieces returns the digest of pieces, one behind the other.
func Pieces(l [][]byte) (api.ID, api.Errno) {
	if len(l) > api.MaxPieces {
		return api.ID{}, api.ErrMany
	}
	for _, b := range l {
		if len(b) > api.MaxPiece {
			return api.ID{}, api.ErrMany
		}
	}
	m := Start()
	for _, b := range l {
		m = put(m, b)
	}
	return finish(m), api.OK
}

// Start returns the mill of no bytes.
func Start() api.Mill {
	return api.Mill{Words: firstWords}
}

// Add returns a mill after bytes were put behind those that it stands for.
func Add(m api.Mill, b []byte) (api.Mill, api.Errno) {
	if !valid(m) {
		return api.Mill{}, api.ErrBad
	}
	// A sum of both lengths could pass the greatest int; a valid N leaves this difference small.
	if len(b) > api.MaxTotal-m.N {
		return api.Mill{}, api.ErrMany
	}
	return put(m, b), api.OK
}

// End returns the digest of the bytes of a mill.
func End(m api.Mill) (api.ID, api.Errno) {
	if !valid(m) {
		return api.ID{}, api.ErrBad
	}
	return finish(m), api.OK
}

// Cmp returns -1, 0 or 1 if a comes before b, is b, or comes behind b.
func Cmp(a, b api.ID) int {
	return bytes.Compare(a[:], b[:])
}
