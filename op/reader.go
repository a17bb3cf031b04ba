package op

import (
	"math"

	"braid/api"
	"braid/value"
	"braid/wire"
)

// reader reads the parts of an operation, from left to right. Once something could not be read it has failed, and what it gives from then on means nothing.
type reader struct {
	rest   []byte
	failed bool
}

// operation reads an operation, which may not be valid.
func (r *reader) operation() api.Op {
	if r.next() != mark {
		r.failed = true
	}
	var o api.Op
	o.Author = r.small()
	o.Preds = r.ids()
	o.Stamp = r.number()
	o.Act = r.act()
	o.Sig.E = r.small()
	o.Sig.S = r.small()
	return o
}

// act reads an act; of a kind that there is not it may read anything.
func (r *reader) act() api.Act {
	a := api.Act{Kind: r.next()}
	if a.Kind != api.ActNone {
		a.Key = r.key()
	}
	if a.Kind == api.ActSet {
		a.Value = r.value()
	}
	return a
}

// skip goes on behind what was just read.
func (r *reader) skip(used int, e api.Errno) {
	if e != api.OK {
		r.failed = true
		return
	}
	r.rest = r.rest[used:]
}

func (r *reader) next() byte {
	if len(r.rest) == 0 {
		r.failed = true
		return 0
	}
	b := r.rest[0]
	r.rest = r.rest[1:]
	return b
}

func (r *reader) number() uint64 {
	n, used, e := wire.ReadNumber(r.rest)
	r.skip(used, e)
	return n
}

// small reads a number of at most 32 bits: a greater one has to fail here, as its lowest bits alone could be valid.
func (r *reader) small() uint32 {
	n := r.number()
	if n > math.MaxUint32 {
		r.failed = true
	}
	return uint32(n)
}

func (r *reader) ids() []api.ID {
	l, used, e := wire.ReadIDs(r.rest, api.MaxPreds)
	r.skip(used, e)
	return l
}

func (r *reader) key() string {
	s, used, e := wire.ReadBytes(r.rest, api.MaxKey)
	r.skip(used, e)
	return string(s)
}

func (r *reader) value() api.Value {
	v, used, e := value.Decode(r.rest)
	r.skip(used, e)
	return v
}
