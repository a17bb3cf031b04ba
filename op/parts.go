package op

import (
	"braid/api"
	"braid/digest"
	"braid/value"
	"braid/wire"
)

const (
	mark = 111 // o: messages of operations begin with it

	firstByte = 33  // the first byte that a key may have
	lastByte  = 126 // the last one
)

// validAct reports whether an act is valid.
func validAct(a api.Act) bool {
	switch a.Kind {
	case api.ActNone:
		return a == api.Act{Kind: api.ActNone}
	case api.ActAdd, api.ActRemove:
		return validKey(a.Key) && a.Value == api.Value{}
	case api.ActSet:
		return validKey(a.Key) && value.Check(a.Value) == api.OK
	}
	return false
}

// validKey reports whether a key has from 1 to MaxKey bytes, all of them allowed.
func validKey(key string) bool {
	if len(key) < 1 || len(key) > api.MaxKey {
		return false
	}
	for i := range len(key) {
		if key[i] < firstByte || key[i] > lastByte {
			return false
		}
	}
	return true
}

// validSig reports whether both numbers of a signature are exponents.
func validSig(s api.Sig) bool {
	return s.E < api.GroupQ && s.S < api.GroupQ
}

// increase reports whether ids increase strictly.
func increase(l []api.ID) bool {
	for i := range len(l) - 1 {
		if l[i] == l[i+1] || digest.Cmp(l[i], l[i+1]) > 0 {
			return false
		}
	}
	return true
}

// message returns the message of an operation that is valid but for its Sig.
func message(o api.Op) []byte {
	b := []byte{mark}
	// Parts of such an operation are within the limits of wire and value, so there is no error.
	put := func(part []byte, _ api.Errno) {
		b = append(b, part...)
	}
	put(wire.Number(uint64(o.Author)), api.OK)
	put(wire.IDs(o.Preds))
	put(wire.Number(o.Stamp), api.OK)
	put([]byte{o.Act.Kind}, api.OK)
	if o.Act.Kind != api.ActNone {
		put(wire.Bytes([]byte(o.Act.Key)))
	}
	if o.Act.Kind == api.ActSet {
		put(value.Encode(o.Act.Value))
	}
	return b
}
