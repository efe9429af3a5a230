package hash

import (
	"math/bits"

	"veil/api"
)

const (
	wordBytes   = 8
	blockBytes  = 128
	lengthBytes = 16 // at the end of the last block: how many bits there are
	roundCount  = 80
)

type (
	words [8]uint64
	block [blockBytes]byte
	plan  [roundCount]uint64
)

// word: of 8 bytes, the highest first. Written out, as the compiler makes one load of it.
func word(b []byte) uint64 {
	_ = b[7]
	return uint64(b[0])<<56 | uint64(b[1])<<48 | uint64(b[2])<<40 | uint64(b[3])<<32 |
		uint64(b[4])<<24 | uint64(b[5])<<16 | uint64(b[6])<<8 | uint64(b[7])
}

// put: a word as 8 bytes, the highest first.
func put(b []byte, w uint64) {
	for i := range wordBytes {
		b[i] = byte(w >> (8 * (wordBytes - 1 - i)))
	}
}

// bytes: of the words, the first one first.
func (s words) bytes() (b api.Bytes64) {
	for i, w := range s {
		put(b[wordBytes*i:], w)
	}
	return b
}

func rotr(x uint64, n int) uint64 { return bits.RotateLeft64(x, -n) }

// spread: the words of a block, and those that are made of them for the later rounds.
func spread(b *block) (w plan) {
	for t := range blockBytes / wordBytes {
		w[t] = word(b[wordBytes*t:])
	}
	for t := blockBytes / wordBytes; t < roundCount; t++ {
		x, y := w[t-15], w[t-2]
		s0 := rotr(x, 1) ^ rotr(x, 8) ^ x>>7
		s1 := rotr(y, 19) ^ rotr(y, 61) ^ y>>6
		w[t] = s1 + w[t-7] + s0 + w[t-16]
	}
	return w
}

// take: the words behind a block.
func (s words) take(from *block) words {
	w := spread(from)
	a, b, c, d, e, f, g, h := s[0], s[1], s[2], s[3], s[4], s[5], s[6], s[7]
	for t, k := range rounds {
		u := h + (rotr(e, 14) ^ rotr(e, 18) ^ rotr(e, 41)) + (e&f ^ ^e&g) + k + w[t]
		v := (rotr(a, 28) ^ rotr(a, 34) ^ rotr(a, 39)) + (a&b ^ a&c ^ b&c)
		h, g, f, e, d, c, b, a = g, f, e, d+u, c, b, a, u+v
	}
	return words{s[0] + a, s[1] + b, s[2] + c, s[3] + d, s[4] + e, s[5] + f, s[6] + g, s[7] + h}
}

// closed: the words behind the last bytes, which stand in a block that is not full, and behind what marks their end.
func (s words) closed(last block, size uint64) words {
	n := size % blockBytes
	last[n] = 0x80
	clear(last[n+1:])
	switch {
	case n >= blockBytes-lengthBytes: // no room is left: the length gets a block of its own
		s = s.take(&last)
		clear(last[:])
		fallthrough
	default:
		// A State takes no more than 2^60 bytes, so that the upper word of the length is 0.
		put(last[blockBytes-wordBytes:], 8*size)
		s = s.take(&last)
	}
	return s
}
