package msm

import (
	"veil/api"
	"veil/scalar"
)

// Line: the scalars themselves as a group: K.
type Line struct {
	K scalar.Scalar
}

// Add: a + b.
func (a Line) Add(b Line) Line { return Line{a.K.Add(b.K)} }

// Neg: -a.
func (a Line) Neg() Line { return Line{a.K.Neg()} }

// Double: a + a.
func (a Line) Double() Line { return Line{a.K.Add(a.K)} }

// Times: k a.
func (a Line) Times(k scalar.Scalar) Line { return Line{a.K.Mul(k)} }

// Same: are they the same?
func (a Line) Same(b Line) bool { return a.K.Same(b.K) }

// Encode: the scalar's bytes.
func (a Line) Encode() api.Bytes32 { return a.K.Encode() }

// Decode: the element of these bytes.
func (a Line) Decode(b api.Bytes32) (Line, api.Errno) {
	k, e := scalar.Decode(b)
	return Line{k}, e
}
