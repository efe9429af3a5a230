package sample

import (
	"math/big"

	"veil/api"
)

// Pair: the coordinates of a point of the curve -x x + y y = 1 + d x x y y, from 0 to p - 1, added as the chapter's words say it.
type Pair struct{ X, Y *big.Int }

// D: the constant d of the curve.
func D() *big.Int { return quotient(big.NewInt(-121665), big.NewInt(121666)) }

// quotient: a / b modulo p.
func quotient(a, b *big.Int) *big.Int {
	q := new(big.Int).ModInverse(b, P())
	return q.Mul(q, a).Mod(q, P())
}

// product: of all these.
func product(ns ...*big.Int) *big.Int {
	r := big.NewInt(1)
	for _, n := range ns {
		r.Mul(r, n).Mod(r, P())
	}
	return r
}

// NewPair: of any two numbers, modulo p.
func NewPair(x, y *big.Int) Pair {
	return Pair{new(big.Int).Mod(x, P()), new(big.Int).Mod(y, P())}
}

// Neutral: (0, 1).
func Neutral() Pair { return NewPair(big.NewInt(0), big.NewInt(1)) }

// Base: the base point.
func Base() Pair {
	return Pair{
		Decimal("15112221349535400772501151409588531511454012693041857206046113283949847762202"),
		Decimal("46316835694926478169428394003475163141307993866256225615783033603165251855960"),
	}
}

// Torsion: the point of order 8 without a negative coordinate.
func Torsion() Pair {
	return Pair{
		Decimal("14399317868200118260347934320527232580618823971194345261214217575416788799818"),
		Decimal("2707385501144840649318225287225658788936804267575313519463743609750303402022"),
	}
}

// On: is it a point of the curve?
func (a Pair) On() bool {
	xx, yy := product(a.X, a.X), product(a.Y, a.Y)
	sides := NewPair(new(big.Int).Sub(yy, xx), new(big.Int).Add(big.NewInt(1), product(D(), xx, yy)))
	return sides.X.Cmp(sides.Y) == 0
}

// Same: are they the same point?
func (a Pair) Same(b Pair) bool { return a.X.Cmp(b.X) == 0 && a.Y.Cmp(b.Y) == 0 }

// Neg: -a.
func (a Pair) Neg() Pair { return NewPair(new(big.Int).Neg(a.X), a.Y) }

// Add: a + b.
func (a Pair) Add(b Pair) Pair {
	one, d := big.NewInt(1), product(D(), a.X, b.X, a.Y, b.Y)
	x := new(big.Int).Add(product(a.X, b.Y), product(a.Y, b.X))
	y := new(big.Int).Add(product(a.Y, b.Y), product(a.X, b.X))
	return Pair{quotient(x, new(big.Int).Add(one, d)), quotient(y, new(big.Int).Sub(one, d))}
}

// Times: k times a, k from 0 on.
func (a Pair) Times(k *big.Int) Pair {
	r := Neutral()
	for i := k.BitLen() - 1; i >= 0; i-- {
		r = r.Add(r)
		if k.Bit(i) == 1 {
			r = r.Add(a)
		}
	}
	return r
}

// Compress: y, with 128 added to the last byte if x is odd.
func (a Pair) Compress() api.Bytes32 {
	b := Bytes32(a.Y)
	b[31] |= byte(a.X.Bit(0)) << 7
	return b
}
