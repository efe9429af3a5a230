package ipa

import (
	"math/bits"

	"veil/api"
)

// isSize: a power of two from 1 to api.MaxSize?
func isSize(n int) bool { return n >= 1 && n <= api.MaxSize && n&(n-1) == 0 }

// rounds: of a size: how often it can be halved.
func rounds(size int) int { return bits.Len(uint(size)) - 1 }

// alike: are all lengths the same?
func alike(first int, others ...int) bool {
	for _, length := range others {
		if length != first {
			return false
		}
	}
	return true
}

// halves: of a list of an even length. Neither has room behind it: what is appended to the first would be written into the second.
func halves[T any](list []T) (lo, hi []T) {
	middle := len(list) / 2
	return list[:middle:middle], list[middle:len(list):len(list)]
}
