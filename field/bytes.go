package field

import "veil/api"

// word: the eight bytes from place at on, the lowest first.
func word(b api.Bytes32, at int) uint64 {
	n := uint64(0)
	for i := range 8 {
		n |= uint64(b[at+i]) << (8 * i)
	}
	return n
}

// Reduce: the number of these bytes without their highest bit, modulo p.
func Reduce(b api.Bytes32) Elem {
	// Limb i begins at bit 51 i: each word is read from the byte with that bit.
	return Elem{
		word(b, 0) & limbMask,
		word(b, 6) >> 3 & limbMask,
		word(b, 12) >> 6 & limbMask,
		word(b, 19) >> 1 & limbMask,
		word(b, 24) >> 12 & limbMask,
	}.Least()
}

// Decode: the number of these bytes, the lowest first; api.ErrCanon, if it is p or more.
func Decode(b api.Bytes32) (Elem, api.Errno) {
	// Reduce drops the highest bit, or takes off p, just where the number is p or more: then the bytes don't come back.
	a := Reduce(b)
	if a.Encode() != b {
		return Elem{}, api.ErrCanon
	}
	return a, api.OK
}

// Encode: the least number as bytes, the lowest first.
func (a Elem) Encode() api.Bytes32 {
	a = a.Least()
	words := [4]uint64{
		a[0] | a[1]<<51,
		a[1]>>13 | a[2]<<38,
		a[2]>>26 | a[3]<<25,
		a[3]>>39 | a[4]<<12,
	}
	var b api.Bytes32
	for i := range b {
		b[i] = byte(words[i/8] >> (8 * (i % 8)))
	}
	return b
}
