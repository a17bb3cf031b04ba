package frame

import (
	"braid/api"
	"braid/digest"
	"braid/wire"
)

// hasNumber reports whether frames of a kind have a number.
func hasNumber(kind uint8) bool {
	return kind == api.FrameHello || kind == api.FrameBye
}

// hasIDs reports whether frames of a kind have ids.
func hasIDs(kind uint8) bool {
	return kind == api.FrameHeads || kind == api.FrameWant || kind == api.FrameHave
}

// validParts reports whether a frame is valid but for how many bytes it has.
func validParts(f api.Frame) bool {
	switch {
	case hasNumber(f.Kind):
		return len(f.IDs) == 0 && len(f.Ops) == 0
	case hasIDs(f.Kind):
		return f.N == 0 && len(f.Ops) == 0 && len(f.IDs) <= api.MaxIDs && increase(f.IDs)
	case f.Kind == api.FrameOps:
		return f.N == 0 && len(f.IDs) == 0 && validStrings(f.Ops)
	}
	return false
}

// validStrings reports whether there are at most MaxOps strings, of at most MaxOpBytes bytes each.
func validStrings(l [][]byte) bool {
	if len(l) > api.MaxOps {
		return false
	}
	for _, s := range l {
		if len(s) > api.MaxOpBytes {
			return false
		}
	}
	return true
}

// increase reports whether ids increase strictly.
func increase(l []api.ID) bool {
	for i := range len(l) - 1 {
		if digest.Cmp(l[i], l[i+1]) >= 0 {
			return false
		}
	}
	return true
}

// write returns the bytes of a frame that has valid parts; these are within the limits of wire, so there is no error.
func write(f api.Frame) []byte {
	b := []byte{f.Kind}
	switch {
	case hasNumber(f.Kind):
		return append(b, wire.Number(f.N)...)
	case hasIDs(f.Kind):
		ids, _ := wire.IDs(f.IDs)
		return append(b, ids...)
	}
	b = append(b, wire.Number(uint64(len(f.Ops)))...)
	for _, s := range f.Ops {
		part, _ := wire.Bytes(s)
		b = append(b, part...)
	}
	return b
}

// read reads what frames of a kind have: it returns the frame, which has valid parts, and how many bytes were read.
func read(kind uint8, b []byte) (api.Frame, int, api.Errno) {
	f := api.Frame{Kind: kind}
	used, e := 0, api.ErrForm
	switch {
	case hasNumber(kind):
		f.N, used, e = wire.ReadNumber(b)
	case hasIDs(kind):
		f.IDs, used, e = wire.ReadIDs(b, api.MaxIDs)
	case kind == api.FrameOps:
		f.Ops, used, e = readStrings(b)
	}
	return f, used, e
}

// readStrings reads the strings of a frame: it returns them, and how many bytes were read.
func readStrings(b []byte) ([][]byte, int, api.Errno) {
	count, used, e := wire.ReadNumber(b)
	if e != api.OK || count > api.MaxOps {
		return nil, 0, api.ErrForm
	}
	l := make([][]byte, count)
	for i := range l {
		s, more, e := wire.ReadBytes(b[used:], api.MaxOpBytes)
		if e != api.OK {
			return nil, 0, e
		}
		l[i] = s
		used += more
	}
	return l, used, api.OK
}

// frameOf returns the frame with ids of its own.
func frameOf(kind uint8, l []api.ID) api.Frame {
	return api.Frame{Kind: kind, IDs: append([]api.ID(nil), l...)}
}
