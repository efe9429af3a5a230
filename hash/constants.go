package hash

import "math/big"

// Filled by init, never changed behind it.
var (
	first  = words{} // the state ahead of the first block
	rounds = plan{}  // the constants of the rounds
)

func init() {
	for i, prime := range firstPrimes(roundCount) {
		rounds[i] = fraction(prime, 3)
		if i < len(first) {
			first[i] = fraction(prime, 2)
		}
	}
}

// firstPrimes: so many of them.
func firstPrimes(count int) []int64 {
	var primes []int64
next:
	for n := int64(2); len(primes) < count; n++ {
		for _, p := range primes {
			if n%p == 0 {
				continue next
			}
		}
		primes = append(primes, n)
	}
	return primes
}

// fraction: the first 64 bits behind the point of a prime's square root (degree 2) or cube root (degree 3).
func fraction(prime int64, degree uint) uint64 {
	const behind = 64
	// 2^64 times the root is the root of 2^(64 degree) times the prime: so whole numbers do.
	power := new(big.Int).Lsh(big.NewInt(prime), behind*degree)
	root := wholeRoot(power, degree)
	return root.Mod(root, new(big.Int).Lsh(big.NewInt(1), behind)).Uint64()
}

// wholeRoot: the greatest number whose square (degree 2) or cube (degree 3) is not above n: found bit by bit, the highest first.
func wholeRoot(n *big.Int, degree uint) *big.Int {
	root, k := new(big.Int), big.NewInt(int64(degree))
	for bit := n.BitLen() / int(degree); bit >= 0; bit-- {
		root.SetBit(root, bit, 1)
		if new(big.Int).Exp(root, k, nil).Cmp(n) > 0 {
			root.SetBit(root, bit, 0)
		}
	}
	return root
}
