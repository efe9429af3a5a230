package hash

import "veil/api"

// keyed: what has taken a key, so that many sums under it begin behind it.
type keyed struct{ inner, outer State }

// under: the sums under this key.
func under(key []byte) keyed {
	if len(key) > blockBytes {
		h := Sum(key)
		key = h[:]
	}
	return keyed{inner: masked(key, 0x36), outer: masked(key, 0x5c)}
}

// masked: a State that has taken a block: the key with zeros behind it, each byte turned by the mask.
func masked(key []byte, mask byte) State {
	var b block
	copy(b[:], key)
	for i := range b {
		b[i] ^= mask
	}
	s := begun()
	s.Write(b[:])
	return s
}

// mac: of the parts, one behind the other.
func (k *keyed) mac(parts ...[]byte) api.Bytes64 {
	inner := k.inner.with(parts)
	return k.outer.with([][]byte{inner[:]})
}

// Mac: HMAC of the parts, one behind the other, under a key.
func Mac(key []byte, parts ...[]byte) api.Bytes64 {
	k := under(key)
	return k.mac(parts...)
}

// Stretch: n bytes that hang on a seed; nil, if n is below 0 or above api.MaxStream.
func Stretch(seed []byte, n int) []byte {
	if n < 0 || n > api.MaxStream {
		return nil
	}
	k := under(seed)
	stream := make([]byte, n)
	for from, i := 0, uint64(0); from < n; i++ {
		h := k.mac([]byte("stretch"), le64(i))
		from += copy(stream[from:], h[:])
	}
	return stream
}

// le64: a number as 8 bytes, the lowest first.
func le64(n uint64) []byte {
	b := make([]byte, wordBytes)
	for i := range b {
		b[i] = byte(n >> (8 * i))
	}
	return b
}
