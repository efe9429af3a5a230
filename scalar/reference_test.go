package scalar_test

// What the tests of this package hold the answers against: numbers of math/big, which know nothing of limbs.

import (
	"math/big"
	"testing"

	"veil/sample"
	"veil/scalar"
)

const maxLimb = 1<<64 - 1

var (
	big1    = big.NewInt(1)
	l       = sample.L()
	beyond  = new(big.Int).Sub(l, sample.Power2(252)) // what l has beyond 2^252
	full    = scalar.Scalar{maxLimb, maxLimb, maxLimb, maxLimb}
	primeOf = scalar.Scalar{0x5812631a5cf5d3ed, 0x14def9dea2f79cd6, 0, 0x1000000000000000}
)

// whole: the number of a scalar, not modulo l.
func whole(a scalar.Scalar) *big.Int {
	n := new(big.Int)
	for i := len(a) - 1; i >= 0; i-- {
		n.Lsh(n, 64).Add(n, new(big.Int).SetUint64(a[i]))
	}
	return n
}

// number: what a scalar stands for, from 0 to l - 1.
func number(a scalar.Scalar) *big.Int {
	n := whole(a)
	return n.Mod(n, l)
}

// limbs: of a number below 2^256, as it is.
func limbs(n *big.Int) scalar.Scalar { return sample.Words(n) }

// least: the least limbs of any number.
func least(n *big.Int) scalar.Scalar { return sample.Scalar(n) }

// check: an answer must be the least limbs of a number.
func check(t *testing.T, got scalar.Scalar, want *big.Int, what string, args ...any) {
	t.Helper()
	if got != least(want) {
		t.Errorf(what+" = %v, want %v", append(args, got, least(want))...)
	}
}

// around: the numbers from 0 to 2^256 - 1 that lie at most so far from one.
func around(middle *big.Int, far int64) []*big.Int {
	var list []*big.Int
	for off := -far; off <= far; off++ {
		n := new(big.Int).Add(middle, big.NewInt(off))
		if n.Sign() >= 0 && n.BitLen() <= 256 {
			list = append(list, n)
		}
	}
	return list
}

// nearL: scalars whose numbers lie around the multiples of l and of 2^252, as far up as four limbs reach.
func nearL() []scalar.Scalar {
	var list []scalar.Scalar
	for times := range int64(17) {
		for _, unit := range []*big.Int{l, sample.Power2(252)} {
			for _, n := range around(new(big.Int).Mul(unit, big.NewInt(times)), 3) {
				list = append(list, limbs(n))
			}
		}
	}
	return list
}

// edges: scalars that the chapter names, and what lies at the limbs' ends.
func edges() []scalar.Scalar {
	list := []scalar.Scalar{
		{}, {1}, {2}, {3}, primeOf, full,
		{maxLimb}, {0, maxLimb}, {0, 0, maxLimb}, {0, 0, 0, maxLimb},
		{maxLimb, maxLimb}, {maxLimb, maxLimb, maxLimb}, {0, maxLimb, maxLimb, maxLimb},
		{0, 1}, {0, 0, 1}, {0, 0, 0, 1},
		{1 << 63}, {0, 0, 0, 1 << 63}, {0, 0, 0, 1 << 60}, {maxLimb, maxLimb, maxLimb, 1<<60 - 1},
		{0x0102030405060708, 0x1112131415161718, 0x2122232425262728, 0x0132333435363738},
	}
	for _, off := range []int64{-2, -1, 1, 2} {
		list = append(list, limbs(new(big.Int).Add(l, big.NewInt(off))))
	}
	return list
}

// anyScalar: by any limbs; some of them short, so that all sizes come up.
func anyScalar(m *sample.Maker) scalar.Scalar {
	var a scalar.Scalar
	for i := range a {
		a[i] = m.Next() >> (m.Next() % 4 * 16)
	}
	return a
}

// scalars: the edges, and others by any limbs.
func scalars(others int) []scalar.Scalar {
	list := edges()
	m := sample.Maker(2)
	for range others {
		list = append(list, anyScalar(&m))
	}
	return list
}
