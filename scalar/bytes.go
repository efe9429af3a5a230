package scalar

import "veil/api"

const (
	limbBytes = 8
	wideBytes = 64
)

// read: the limbs of these bytes, the lowest first, as they are.
func read(b api.Bytes32) Scalar {
	var a Scalar
	for i, c := range b {
		a[i/limbBytes] |= uint64(c) << (8 * (i % limbBytes))
	}
	return a
}

// Decode: the number of these bytes, the lowest first; api.ErrCanon, if it is l or more.
func Decode(b api.Bytes32) (Scalar, api.Errno) {
	a := read(b)
	if a != a.Least() {
		return Scalar{}, api.ErrCanon
	}
	return a, api.OK
}

// Reduce: the number of these bytes, modulo l.
func Reduce(b api.Bytes32) Scalar { return read(b).Least() }

// Wide: the number of 64 bytes, the lowest first, modulo l.
func Wide(b api.Bytes64) Scalar {
	low, high := read(api.Bytes32(b[:32])), read(api.Bytes32(b[32:]))
	// The upper half counts 2^256-fold: just as in Montgomery's form.
	return low.Add(high.enter())
}

// Encode: the least number as bytes, the lowest first.
func (a Scalar) Encode() api.Bytes32 {
	a = a.Least()
	var b api.Bytes32
	for i := range b {
		b[i] = byte(a[i/limbBytes] >> (8 * (i % limbBytes)))
	}
	return b
}

// Tape: the first n scalars of a stream: 64 bytes each, by Wide.
func Tape(stream []byte, n int) ([]Scalar, api.Errno) {
	if n < 0 || n > api.MaxVector {
		return nil, api.ErrArg
	}
	if len(stream) < wideBytes*n {
		return nil, api.ErrShort
	}
	list := make([]Scalar, n)
	for i := range n {
		list[i] = Wide(api.Bytes64(stream[wideBytes*i : wideBytes*(i+1)]))
	}
	return list, api.OK
}
