package judge_test

import (
	"bytes"
	"encoding/binary"
	"math/big"

	"braid/api"
)

// source is bytes of which parts are read; what is read behind their end is 0, and makes them short.
type source struct {
	rest  []byte
	short bool
}

func (s *source) take(n uint64) []byte {
	if n > uint64(len(s.rest)) {
		s.rest, s.short = nil, true
		return make([]byte, min(n, 32))
	}
	part := s.rest[:n]
	s.rest = s.rest[n:]
	return part
}

func (s *source) number() uint64 {
	first := s.take(1)[0]
	if first <= 247 {
		return uint64(first)
	}
	eight := make([]byte, 8)
	part := s.take(uint64(first) - 247)
	copy(eight[8-len(part):], part)
	return binary.BigEndian.Uint64(eight)
}

// small is a number that is made too great for any check where it has more than 32 bits.
func (s *source) small() uint32 {
	return uint32(min(s.number(), 1<<32-1))
}

func (s *source) value() api.Value {
	v := api.Value{Kind: s.take(1)[0]}
	switch v.Kind {
	case 1:
		fold := s.number()
		v.Num = int64(fold / 2)
		if fold%2 == 1 {
			v.Num = -v.Num - 1
		}
	case 2:
		v.Bits = binary.BigEndian.Uint64(s.take(8))
	case 3:
		v.Text = string(s.take(s.number()))
	}
	return v
}

// wantRead is the valid operation with just some bytes, by a reader of its own: it takes what has the form of an operation, and then refuses what has not its one string of bytes, or is not valid.
func wantRead(b []byte) (api.Op, bool) {
	s := source{rest: b}
	s.take(1)
	o := api.Op{Author: s.small()}
	for n := s.number(); n > 0 && !s.short; n-- {
		o.Preds = append(o.Preds, api.ID(s.take(32)))
	}
	o.Stamp = s.number()
	o.Act.Kind = s.take(1)[0]
	if o.Act.Kind != 1 {
		o.Act.Key = string(s.take(s.number()))
	}
	if o.Act.Kind == 4 {
		o.Act.Value = s.value()
	}
	o.Sig = api.Sig{E: s.small(), S: s.small()}
	return o, !s.short && bytes.Equal(wantBytes(o), b) && isValid(o)
}

func isValid(o api.Op) bool {
	for i := 1; i < len(o.Preds); i++ {
		if bytes.Compare(o.Preds[i-1][:], o.Preds[i][:]) >= 0 {
			return false
		}
	}
	inGroup := o.Author < modulus && big.Jacobi(big.NewInt(int64(o.Author)), bigP) == 1
	return len(o.Preds) <= maxPreds && inGroup && o.Stamp <= maxStamp && isAct(o.Act) && o.Sig.E < order && o.Sig.S < order
}

func isAct(a api.Act) bool {
	switch a.Kind {
	case 1:
		return true
	case 2, 3:
		return isKey(a.Key)
	}
	return a.Kind == 4 && isKey(a.Key) && isValue(a.Value)
}

func isKey(key string) bool {
	return len(key) >= 1 && len(key) <= 20 && isWithin(key, 33, 126)
}

func isValue(v api.Value) bool {
	switch v.Kind {
	case 1:
		return true
	case 2:
		isNone := v.Bits>>52&2047 == 2047 && v.Bits<<12 != 0
		return !isNone || v.Bits == 0x7ff8000000000000
	}
	return v.Kind == 3 && len(v.Text) <= 30 && isWithin(v.Text, 32, 126)
}

// isWithin reports whether each byte of a string is from least to most.
func isWithin(s string, least, most byte) bool {
	for _, c := range []byte(s) {
		if c < least || c > most {
			return false
		}
	}
	return true
}
