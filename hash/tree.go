package hash

import (
	"math/bits"

	"veil/api"
)

// What stands ahead of a leaf and of two roots, so that neither is taken for the other.
const (
	leafMark = 0
	nodeMark = 1
)

// Root: the root of a tree of hashes over leaves.
func Root(leaves ...[]byte) api.Bytes64 {
	switch len(leaves) {
	case 0:
		return Sum()
	case 1:
		return Sum([]byte{leafMark}, leaves[0])
	}
	k := powerBelow(len(leaves))
	left, right := Root(leaves[:k]...), Root(leaves[k:]...)
	return Sum([]byte{nodeMark}, left[:], right[:])
}

// powerBelow: the greatest power of two below n, which is above 1.
func powerBelow(n int) int { return 1 << (bits.Len(uint(n-1)) - 1) }
