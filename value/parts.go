package value

import (
	"braid/api"
	"braid/wire"
)

const (
	sizeF     = 52                          // how many bits F has
	lastX     = 1<<11 - 1                   // the X of floats that are infinite, or FloatNone
	signBit   = 1 << 63                     // the sign of a float
	plainNone = lastX<<sizeF | 1<<(sizeF-1) // the plain bits of FloatNone

	firstByte = 32  // the first byte that a text may have
	lastByte  = 126 // the last one
)

// split returns the X and the F of the bits of a float.
func split(bits uint64) (x, f uint64) {
	return bits >> sizeF & lastX, bits & (1<<sizeF - 1)
}

// allowed reports whether each byte of a text is allowed.
func allowed(s string) bool {
	for i := range len(s) {
		if s[i] < firstByte || s[i] > lastByte {
			return false
		}
	}
	return true
}

// valid reports whether a value is valid: each valid one is what its kind's function makes of its part.
func valid(v api.Value) bool {
	switch v.Kind {
	case api.ValNumber:
		return v == Number(v.Num)
	case api.ValFloat:
		return v == Float(v.Bits)
	case api.ValText:
		made, e := Text(v.Text)
		return e == api.OK && v == made
	}
	return false
}

// appendEight returns b with the eight bytes of bits behind it, the highest one first.
func appendEight(b []byte, bits uint64) []byte {
	for shift := 56; shift >= 0; shift -= 8 {
		b = append(b, byte(bits>>shift))
	}
	return b
}

// decodePart reads what stands behind the kind of a value: it returns the value, and how many bytes were read. With an error the others may be anything.
func decodePart(kind uint8, b []byte) (api.Value, int, api.Errno) {
	switch kind {
	case api.ValNumber:
		n, used, e := wire.ReadSigned(b)
		return Number(n), used, e
	case api.ValFloat:
		return decodeFloat(b)
	case api.ValText:
		s, used, e := wire.ReadBytes(b, api.MaxText)
		if e != api.OK {
			return api.Value{}, 0, e
		}
		v, e := Text(string(s))
		return v, used, e
	}
	return api.Value{}, 0, api.ErrForm
}

// decodeFloat reads the eight bytes of a float.
func decodeFloat(b []byte) (api.Value, int, api.Errno) {
	if len(b) < 8 {
		return api.Value{}, 0, api.ErrForm
	}
	bits := uint64(0)
	for _, x := range b[:8] {
		bits = bits<<8 | uint64(x)
	}
	// Only plain bits are those of a value.
	if bits != Canon(bits) {
		return api.Value{}, 0, api.ErrForm
	}
	return Float(bits), 8, api.OK
}
