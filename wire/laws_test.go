package wire_test

import (
	"bytes"
	"math"
	"slices"
	"testing"

	"braid/api"
	"braid/wire"
)

// anyBytes returns bytes of which some can be read and others can not: all of one or two bytes, and longer ones with each first byte.
func anyBytes() [][]byte {
	l := [][]byte{nil, {}}
	for i := range 256 {
		l = append(l, []byte{byte(i)})
		for j := range 256 {
			l = append(l, []byte{byte(i), byte(j)})
		}
		for n := range 12 {
			for _, x := range []byte{0, 1, 247, 248, 255} {
				l = append(l, append([]byte{byte(i), x}, pattern(n+i)...))
			}
		}
	}
	return l
}

// readers returns what reads bytes, and gives them back as they are encoded: how many were read, and the bytes of what was read.
func readers(t *testing.T) map[string]func(b []byte) ([]byte, int, api.Errno) {
	return map[string]func(b []byte) ([]byte, int, api.Errno){
		"ReadNumber": func(b []byte) ([]byte, int, api.Errno) {
			n, used, e := wire.ReadNumber(b)
			return wire.Number(n), used, e
		},
		"ReadSigned": func(b []byte) ([]byte, int, api.Errno) {
			n, used, e := wire.ReadSigned(b)
			return wire.Signed(n), used, e
		},
		"ReadBytes": func(b []byte) ([]byte, int, api.Errno) {
			s, used, e := wire.ReadBytes(b, api.MaxPiece)
			return mustBytes(t, s), used, e
		},
		"ReadIDs": func(b []byte) ([]byte, int, api.Errno) {
			l, used, e := wire.ReadIDs(b, api.MaxList)
			return mustIDs(t, l), used, e
		},
	}
}

// P4.4: what is read has just the bytes that were read, and no first part of these can be read.
func TestReadBack(t *testing.T) {
	all := anyBytes()
	for _, n := range []int{1, 2, 5} {
		all = append(all, append(wantIDs(ids(n)), 9), append(wantIDs(ids(n)), pattern(50)...))
	}
	for name, read := range readers(t) {
		some := false
		for _, b := range all {
			again, used, e := read(b)
			if e == api.ErrForm {
				continue
			}
			some = true
			if e != api.OK || used < 1 || used > len(b) || !bytes.Equal(again, b[:used]) {
				t.Fatalf("%s(%v) = %d, %v; what was read has the bytes %v", name, b, used, e, again)
			}
			for i := range used {
				if _, _, e := read(b[:i]); e != api.ErrForm {
					t.Fatalf("%s(%v) = %v, though it is a first part of %v", name, b[:i], e, b[:used])
				}
			}
		}
		if !some {
			t.Errorf("%s reads nothing", name)
		}
	}
}

// P4.4: each number, string and list is read back from its bytes, one behind the other.
func TestOneBehindTheOther(t *testing.T) {
	var b []byte
	for i := range 50 {
		b = append(b, wire.Number(numbers()[i*20])...)
		b = append(b, mustBytes(t, pattern(i*9))...)
		b = append(b, mustIDs(t, ids(i))...)
		b = append(b, wire.Signed(signs()[i*40])...)
	}
	for i := range 50 {
		n, used, e := wire.ReadNumber(b)
		if e != api.OK || n != numbers()[i*20] {
			t.Fatalf("the number %d is %d, %v", i, n, e)
		}
		b = b[used:]
		s, used, e := wire.ReadBytes(b, i*9)
		if e != api.OK || !bytes.Equal(s, pattern(i*9)) {
			t.Fatalf("the string %d is %v, %v", i, s, e)
		}
		b = b[used:]
		l, used, e := wire.ReadIDs(b, i)
		if e != api.OK || !slices.Equal(l, ids(i)) {
			t.Fatalf("the list %d is %v, %v", i, l, e)
		}
		b = b[used:]
		m, used, e := wire.ReadSigned(b)
		if e != api.OK || m != signs()[i*40] {
			t.Fatalf("the number with a sign %d is %d, %v", i, m, e)
		}
		b = b[used:]
	}
	if len(b) != 0 {
		t.Errorf("%d bytes are left", len(b))
	}
}

// P4.4: the bytes of the lesser one of two numbers come first, bytewise.
func TestOrder(t *testing.T) {
	l := numbers()
	for n := range uint64(70000) {
		l = append(l, n)
	}
	slices.Sort(l)
	l = slices.Compact(l)
	for i, n := range l[1:] {
		if bytes.Compare(wire.Number(l[i]), wire.Number(n)) != -1 {
			t.Errorf("the bytes of %d do not come before those of %d", l[i], n)
		}
	}
}

// P4.4: no first part of the bytes of anything can be read, whatever the limit is; the rest stands there up to the capacity, and is not looked at.
func TestFirstParts(t *testing.T) {
	for _, n := range numbers() {
		b := wire.Number(n)
		for i := range b {
			noNumber(t, b[:i])
		}
	}
	for _, n := range []int{0, 1, 247, 248, 300} {
		b := mustBytes(t, pattern(n))
		for i := range b {
			noBytes(t, b[:i], n, api.ErrForm)
			noBytes(t, b[:i], math.MaxInt, api.ErrForm)
		}
	}
	for _, n := range []int{0, 1, 2, 9} {
		b := mustIDs(t, ids(n))
		for i := range b {
			noIDs(t, b[:i], n, api.ErrForm)
			noIDs(t, b[:i], math.MaxInt, api.ErrForm)
		}
	}
}
