package gens

import (
	"veil/api"
	"veil/msm"
	"veil/scalar"
)

// Commit: v B + blind Blind.
func Commit[P msm.Group[P]](s Set[P], v, blind scalar.Scalar) P {
	// Two multiples by themselves: over the plain groups they are cheaper than one sum, and group.Point has a table for those of B.
	return s.B.Times(v).Add(s.Blind.Times(blind))
}

// CommitVectors: a[0] G[0] + .. + b[0] H[0] + .. + blind Blind.
func CommitVectors[P msm.Group[P]](s Set[P], a, b []scalar.Scalar, blind scalar.Scalar) (P, api.Errno) {
	if len(a) > len(s.G) || len(b) > len(s.H) {
		var none P
		return none, api.ErrLength
	}
	left, _ := msm.Zip(a, s.G[:len(a)])
	right, _ := msm.Zip(b, s.H[:len(b)])
	terms := append(append(left, right...), msm.Term[P]{K: blind, P: s.Blind})
	sum, _ := msm.Sum(terms...)
	return sum, api.OK
}
