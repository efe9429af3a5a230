package curve_test

// What the tests of this package hold the answers against: pairs of numbers of math/big, added by the chapter's own formula.

import (
	"math/big"
	"testing"

	"veil/api"
	"veil/curve"
	"veil/field"
	"veil/sample"
)

var (
	big1 = big.NewInt(1)
	big8 = big.NewInt(8)
	p    = sample.P()
	l    = sample.L()
)

// known: a Point, and the point that it must stand for.
type known struct {
	point curve.Point
	pair  sample.Pair
}

// elem: the field element of a number, by its least limbs.
func elem(n *big.Int) field.Elem { return sample.Elem(n) }

// knows: the Point of a pair, by FromAffine.
func knows(t *testing.T, pair sample.Pair) known {
	t.Helper()
	point, e := curve.FromAffine(elem(pair.X), elem(pair.Y))
	if e != api.OK {
		t.Fatalf("FromAffine(%v, %v): error %d", pair.X, pair.Y, e)
	}
	return known{point, pair}
}

// isAt: does the Point have the coordinates of the pair, by their least limbs?
func isAt(got curve.Point, want sample.Pair) bool {
	x, y := got.Affine()
	return x == elem(want.X) && y == elem(want.Y)
}

// check: an answer must stand for a pair, and go on as that: a Point may have wrong insides that only a sum shows.
func check(t *testing.T, got curve.Point, want sample.Pair, what string, args ...any) {
	t.Helper()
	if !isAt(got, want) {
		x, y := got.Affine()
		t.Errorf(what+" = (%v, %v), want %v", append(args, x, y, want)...)
		return
	}
	if !isAt(got.Add(curve.Base()), want.Add(sample.Base())) {
		t.Errorf(what+" looks right, but with the base point added it is not", args...)
	}
}

// neutral: a Point that comes with an error.
func neutral(got curve.Point) bool { return isAt(got, sample.Neutral()) }

// torsionPair: k times the torsion point.
func torsionPair(k int64) sample.Pair { return sample.Torsion().Times(big.NewInt(k)) }

// points: the neutral point by all its ways, the base point, the torsion points alone and added to others, points that were made up.
func points(t *testing.T, others int) []known {
	t.Helper()
	base := sample.Base()
	list := []known{
		{curve.Point{}, sample.Neutral()},
		knows(t, sample.Neutral()),
		{curve.Base(), base},
		knows(t, base.Neg()),
		knows(t, base.Times(big.NewInt(2))),
	}
	for k := range int64(8) {
		list = append(list, knows(t, torsionPair(k)), knows(t, base.Add(torsionPair(k))))
	}
	m := sample.Maker(4)
	for k := range int64(others) {
		list = append(list, knows(t, base.Times(anyNumber(&m)).Add(torsionPair(k%8))))
	}
	return list
}

// anyNumber: of 256 bits.
func anyNumber(m *sample.Maker) *big.Int { return sample.Number(m.Bytes(32)) }

// looks: Points that stand for the same point and look unlike inside.
func looks(a known) []curve.Point {
	x, y := a.point.Affine()
	again, _ := curve.FromAffine(x, y)
	away := curve.Base().Double().Add(curve.Torsion(3))
	round := sample.Bytes32(new(big.Int).Add(new(big.Int).Mul(big8, l), big1))
	return []curve.Point{
		a.point,
		again,
		a.point.Add(away).Sub(away),
		a.point.Add(curve.Point{}),
		a.point.TimesBytes(round),
	}
}

// plus: n and a small number.
func plus(n *big.Int, by int64) *big.Int { return new(big.Int).Add(n, big.NewInt(by)) }

// times: n and a small number, multiplied.
func times(n *big.Int, by int64) *big.Int { return new(big.Int).Mul(n, big.NewInt(by)) }
