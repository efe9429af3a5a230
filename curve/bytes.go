package curve

import (
	"veil/api"
	"veil/field"
)

// compressed: a point as bytes: y, and in the highest bit whether x is negative.
type compressed struct {
	bits
}

// Compress: y, with the sign of x in the highest bit.
func (p Point) Compress() api.Bytes32 {
	x, y := p.Affine()
	c := compressed{bits(y.Encode())}
	if x.Negative() {
		c.raise()
	}
	return api.Bytes32(c.bits)
}

// Decompress: the point of such bytes.
func Decompress(b api.Bytes32) (Point, api.Errno) {
	c := compressed{bits(b)}
	y, e := field.Decode(c.others())
	if e != api.OK {
		return Point{}, api.ErrCanon
	}
	x, ok := fromY(y)
	if !ok {
		return Point{}, api.ErrCurve
	}
	if !c.highest() {
		return at(x, y), api.OK
	}
	if x.IsZero() {
		return Point{}, api.ErrCanon
	}
	return at(x.Neg(), y), api.OK
}

// fromY: the x of a point with this y, the one that is not negative, and whether there is one.
func fromY(y field.Elem) (field.Elem, bool) {
	// The curve asks x x (d y y + 1) = y y - 1; d y y + 1 is never 0.
	yy, one := y.Square(), field.Int(1)
	return field.SqrtRatio(yy.Sub(one), yy.Mul(field.Const(api.CD)).Add(one))
}
