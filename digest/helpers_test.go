package digest_test

import (
	"bytes"
	"testing"

	"braid/api"
	"braid/digest"
)

// pattern returns n bytes that have no short period, so that bytes in the wrong place are noticed.
func pattern(n int) []byte {
	b := make([]byte, n)
	x := uint32(n)*2654435761 + 1
	for i := range b {
		x = x*1664525 + 1013904223
		b[i] = byte(x >> 24)
	}
	return b
}

// roomy returns a copy of b with bytes between its length and its capacity, and all of its memory.
func roomy(b []byte) (part, all []byte) {
	all = append(append([]byte(nil), b...), bytes.Repeat([]byte{0xa5}, 80)...)
	return all[:len(b)], all
}

func mustAdd(t *testing.T, m api.Mill, b []byte) api.Mill {
	t.Helper()
	next, e := digest.Add(m, b)
	if e != api.OK {
		t.Fatalf("Add of %d bytes to a mill of %d: %v", len(b), m.N, e)
	}
	return next
}

func mustEnd(t *testing.T, m api.Mill) api.ID {
	t.Helper()
	id, e := digest.End(m)
	if e != api.OK {
		t.Fatalf("End of a mill of %d bytes: %v", m.N, e)
	}
	return id
}

func sameMill(a, b api.Mill) bool {
	return a.Words == b.Words && bytes.Equal(a.Rest, b.Rest) && a.N == b.N
}

func zeroMill(m api.Mill) bool {
	return sameMill(m, api.Mill{})
}
