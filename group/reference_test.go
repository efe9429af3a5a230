package group_test

// What the tests of this package hold the answers against: pairs of numbers of math/big, added by the formula of chapter 4, and the chapter's words on cosets, bytes and the map, as they stand.

import (
	"bytes"
	"math/big"
	"slices"
	"testing"

	"veil/api"
	"veil/curve"
	"veil/group"
	"veil/sample"
)

var (
	one = big.NewInt(1)
	p   = sample.P()
	l   = sample.L()
	d   = sample.D()
	i   = sample.Decimal("19681161376707505956807079304988542015446066515923890162744021073123829784752")
	k   = sample.Decimal("25063068953384623474111414158702152701244531502492656460079210482610430750235") // CSqrtADM1
)

// sum, neg, mul, over: modulo p.
func sum(ns ...*big.Int) *big.Int {
	r := new(big.Int)
	for _, n := range ns {
		r.Add(r, n)
	}
	return r.Mod(r, p)
}

func neg(n *big.Int) *big.Int { return sum(new(big.Int).Neg(n)) }

func mul(ns ...*big.Int) *big.Int {
	r := big.NewInt(1)
	for _, n := range ns {
		r.Mul(r, n).Mod(r, p)
	}
	return r
}

func over(a, b *big.Int) *big.Int { return mul(a, new(big.Int).ModInverse(b, p)) }

// negative: is a number from 0 to p - 1 odd?
func negative(n *big.Int) bool { return n.Bit(0) == 1 }

// abs: n or -n, the one that is not negative.
func abs(n *big.Int) *big.Int {
	if negative(n) {
		return neg(n)
	}
	return n
}

// root: the root that is not negative; nil, if there is none.
func root(n *big.Int) *big.Int {
	r := new(big.Int).ModSqrt(n, p)
	if r == nil {
		return nil
	}
	return abs(r)
}

// torsion: k times the torsion point.
func torsion(k int64) sample.Pair { return sample.Torsion().Times(big.NewInt(k)) }

// coset: the points that stand for the same element.
func coset(a sample.Pair) [4]sample.Pair {
	return [4]sample.Pair{a, a.Add(torsion(2)), a.Add(torsion(4)), a.Add(torsion(6))}
}

// same: do they stand for the same element?
func same(a, b sample.Pair) bool {
	all := coset(b)
	return slices.ContainsFunc(all[:], a.Same)
}

// fromBytes: the point that bytes name, by the chapter's words.
func fromBytes(b api.Bytes32) (sample.Pair, api.Errno) {
	s := sample.Number(b[:])
	if s.Cmp(p) >= 0 || negative(s) {
		return sample.Neutral(), api.ErrCanon
	}
	ss := mul(s, s)
	less, more := sum(one, neg(ss)), sum(one, ss)
	v := sum(neg(mul(d, less, less)), neg(mul(more, more)))
	if more.Sign() == 0 || v.Sign() == 0 || root(v) == nil {
		return sample.Neutral(), api.ErrPoint
	}
	x, y := root(over(mul(big.NewInt(4), ss), v)), over(less, more)
	if y.Sign() == 0 || negative(mul(x, y)) {
		return sample.Neutral(), api.ErrPoint
	}
	return sample.NewPair(x, y), api.OK
}

// toBytes: the only bytes that name a point of the coset: those of a root of (1 - y) / (1 + y), from which y comes out again.
func toBytes(t *testing.T, a sample.Pair) api.Bytes32 {
	t.Helper()
	var found []api.Bytes32
	for _, c := range coset(a) {
		less, more := sum(one, neg(c.Y)), sum(one, c.Y)
		if more.Sign() == 0 {
			continue
		}
		if s := root(over(less, more)); s != nil {
			b := sample.Bytes32(s)
			if named, e := fromBytes(b); e == api.OK && named.Same(c) {
				found = append(found, b)
			}
		}
	}
	if len(found) != 1 {
		t.Fatalf("%d encodings of the element of %v", len(found), a)
	}
	return found[0]
}

// ratio: SqrtRatio, by chapter 1's words.
func ratio(u, v *big.Int) (*big.Int, bool) {
	switch {
	case u.Sign() == 0:
		return new(big.Int), true
	case v.Sign() == 0:
		return new(big.Int), false
	}
	if r := root(over(u, v)); r != nil {
		return r, true
	}
	return root(over(mul(i, u), v)), false
}

// mapped: the point that t is mapped to, by the chapter's words.
func mapped(t *big.Int) sample.Pair {
	r := mul(i, t, t)
	u := mul(sum(r, one), sum(one, neg(mul(d, d))))
	v := mul(sum(neg(one), neg(mul(r, d))), sum(r, d))
	s, ok := ratio(u, v)
	c := neg(one)
	if !ok {
		s, c = neg(abs(mul(s, t))), r
	}
	less1 := sum(d, neg(one))
	n := sum(mul(c, sum(r, neg(one)), less1, less1), neg(v))
	ss := mul(s, s)
	return sample.NewPair(over(mul(big.NewInt(2), s, v), mul(n, k)), over(sum(one, neg(ss)), sum(one, ss)))
}

// onCurve: the Point of the curve of a pair.
func onCurve(t *testing.T, a sample.Pair) curve.Point {
	t.Helper()
	c, e := curve.FromAffine(sample.Elem(a.X), sample.Elem(a.Y))
	if e != api.OK {
		t.Fatalf("FromAffine(%v): error %d", a, e)
	}
	return c
}

// known: a Point, and a point that stands for its element.
type known struct {
	point group.Point
	pair  sample.Pair
}

// knows: the Point of a pair, by FromCurve.
func knows(t *testing.T, a sample.Pair) known {
	t.Helper()
	point, e := group.FromCurve(onCurve(t, a))
	if e != api.OK {
		t.Fatalf("FromCurve(%v): error %d", a, e)
	}
	return known{point, a}
}

// isAt: has the Point the bytes of the element that a pair stands for?
func isAt(t *testing.T, got group.Point, want sample.Pair) bool {
	t.Helper()
	return got.Encode() == toBytes(t, want)
}

// check: an answer must stand for the element of a pair, and go on as that: a Point may have wrong insides that only a sum shows.
func check(t *testing.T, got group.Point, want sample.Pair, what string, args ...any) {
	t.Helper()
	if !isAt(t, got, want) {
		t.Errorf(what+": %x, want the element of %v", append(args, got.Encode(), want)...)
		return
	}
	if !isAt(t, got.Add(group.Base()), want.Add(sample.Base())) {
		t.Errorf(what+" looks right, but with the base element added it is not", args...)
	}
}

// neutral: a Point that comes with an error.
func neutral(got group.Point) bool {
	return got.Encode() == api.Bytes32{} && got.Same(group.Point{})
}

// anyNumber: of 256 bits.
func anyNumber(m *sample.Maker) *big.Int { return sample.Number(m.Bytes(32)) }

// points: the neutral element and the base element by the points of their cosets, elements that were made up.
func points(t *testing.T, others int) []known {
	t.Helper()
	base := sample.Base()
	list := []known{
		{group.Point{}, sample.Neutral()},
		{group.Base(), base},
		knows(t, base.Neg()),
		knows(t, base.Times(big.NewInt(2))),
	}
	for _, k := range []int64{0, 2, 4, 6} {
		list = append(list, knows(t, torsion(k)), knows(t, base.Add(torsion(k))))
	}
	m := sample.Maker(50)
	for n := range int64(others) {
		list = append(list, knows(t, base.Times(anyNumber(&m)).Add(torsion(2*(n%4)))))
	}
	return list
}

// looks: Points that stand for the same element and look unlike inside: by all points of its coset, by a sum, by its bytes.
func looks(t *testing.T, a known) []group.Point {
	t.Helper()
	away := group.Base().Double()
	decoded, e := away.Decode(toBytes(t, a.pair))
	if e != api.OK {
		t.Fatalf("Decode of the bytes of %v: error %d", a.pair, e)
	}
	list := []group.Point{a.point, a.point.Add(away).Add(away.Neg()), a.point.Add(group.Point{}), decoded}
	for _, c := range coset(a.pair) {
		list = append(list, knows(t, c).point)
	}
	return list
}

// inOrder: the coset of a pair in the order of its bytes.
func inOrder(a sample.Pair) [4]sample.Pair {
	all := coset(a)
	slices.SortFunc(all[:], func(a, b sample.Pair) int {
		left, right := a.Compress(), b.Compress()
		return bytes.Compare(left[:], right[:])
	})
	return all
}
