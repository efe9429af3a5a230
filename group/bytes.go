package group

import (
	"bytes"
	"slices"

	"veil/api"
	"veil/curve"
	"veil/field"
)

// at: the point with these coordinates, which are known to be those of a point.
func at(x, y field.Elem) curve.Point {
	c, _ := curve.FromAffine(x, y)
	return c
}

// turned: the coordinates of the point (x, y) + (i, 0), which stands for the same element.
func turned(x, y field.Elem) (field.Elem, field.Elem) {
	i := field.Const(api.CSqrtM1)
	return i.Mul(y), i.Mul(x)
}

// Coset: the four points of the curve that stand for it.
func (p Point) Coset() [4]curve.Point {
	x, y := p.c.Affine()
	turnedX, turnedY := turned(x, y)
	all := [4]curve.Point{at(x, y), at(x.Neg(), y.Neg()), at(turnedX, turnedY), at(turnedX.Neg(), turnedY.Neg())}
	slices.SortFunc(all[:], byBytes)
	return all
}

// byBytes: the order of two points by their bytes, from the first byte on.
func byBytes(a, b curve.Point) int {
	left, right := a.Compress(), b.Compress()
	return bytes.Compare(left[:], right[:])
}

// Encode: its canonical bytes.
func (p Point) Encode() api.Bytes32 {
	// Of the four points (x, y), (-x, -y), (i y, i x), (-i y, -i x) bytes name the one whose x and x y are not negative and whose y is not 0: by the root of (1 - y) / (1 + y).
	x, y := p.c.Affine()
	if y.IsZero() || x.Mul(y).Negative() {
		x, y = turned(x, y)
	}
	if x.Negative() {
		y = y.Neg()
	}
	one := field.Int(1)
	s, _ := field.SqrtRatio(one.Sub(y), one.Add(y)) // of (0, -1), too: 0, as of (0, 1)
	return s.Encode()
}

// Decode: the element of canonical bytes (whatever p is).
func (p Point) Decode(b api.Bytes32) (Point, api.Errno) {
	s, e := field.Decode(b)
	if e != api.OK || s.Negative() {
		return Point{}, api.ErrCanon
	}
	x, y, ok := fromRoot(s)
	if !ok || y.IsZero() || x.Mul(y).Negative() {
		return Point{}, api.ErrPoint
	}
	return Point{at(x, y)}, api.OK
}

// fromRoot: the x and y that s stands for, and whether there are any.
func fromRoot(s field.Elem) (x, y field.Elem, ok bool) {
	one, ss := field.Int(1), s.Square()
	less, more := one.Sub(ss), one.Add(ss)
	v := field.Const(api.CD).Mul(less.Square()).Add(more.Square()).Neg()
	// One root serves both: r r = 1 / (v (1 + s s) (1 + s s)). There is none where v or 1 + s s is 0.
	r, ok := field.SqrtRatio(one, v.Mul(more.Square()))
	overRoot := r.Mul(more) // its square is 1 / v
	x = s.Add(s).Mul(overRoot).Abs()
	y = less.Mul(overRoot).Mul(r).Mul(v)
	return x, y, ok
}
