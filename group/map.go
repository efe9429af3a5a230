package group

import (
	"veil/api"
	"veil/field"
)

// constants: those of the map.
type constants struct {
	i, d          field.Elem
	oneLessSquare field.Elem // 1 - d d
	squareOfLess  field.Elem // (d - 1) (d - 1)
	twoOverK      field.Elem // 2 / k: so that x is left with one division, by n
}

// newConstants: the constants by what they are.
func newConstants() constants {
	return constants{
		i:             field.Const(api.CSqrtM1),
		d:             field.Const(api.CD),
		oneLessSquare: field.Const(api.COneMDSq),
		squareOfLess:  field.Const(api.CDMOneSq),
		twoOverK:      field.Int(2).Mul(field.Const(api.CSqrtADM1).Invert()),
	}
}

// MapHalf: the element that a field element is mapped to.
func MapHalf(t field.Elem) Point {
	k, one := mapConstants(), field.Int(1)
	r := k.i.Mul(t.Square())
	u := r.Add(one).Mul(k.oneLessSquare)
	v := r.Mul(k.d).Add(one).Neg().Mul(r.Add(k.d))

	s, ok := field.SqrtRatio(u, v)
	c := one.Neg()
	if !ok {
		s, c = s.Mul(t).Abs().Neg(), r
	}
	n := c.Mul(r.Sub(one)).Mul(k.squareOfLess).Sub(v)

	// One inverse serves both quotients: neither n nor 1 + s s is ever 0.
	ss := s.Square()
	less, more := one.Sub(ss), one.Add(ss)
	over := n.Mul(more).Invert()
	x := s.Mul(v).Mul(k.twoOverK).Mul(more).Mul(over)
	y := less.Mul(n).Mul(over)
	return Point{at(x, y)}
}

// Map: the element that 64 bytes are mapped to.
func Map(b api.Bytes64) Point {
	first, second := api.Bytes32(b[:32]), api.Bytes32(b[32:])
	return MapHalf(field.Reduce(first)).Add(MapHalf(field.Reduce(second)))
}
