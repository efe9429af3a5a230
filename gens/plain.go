package gens

import (
	"veil/api"
	"veil/hash"
	"veil/msm"
	"veil/scalar"
)

// Lines: a set over the scalars, its logs by a seed.
func Lines(seed []byte, n int) (Set[msm.Line], api.Errno) {
	return setOf(n, api.MaxSize, func(kind, i int) msm.Line {
		return msm.Line{K: scalar.Wide(hash.Sum([]byte("veil line"), name{kind, i}.seed(), seed))}
	})
}

// Basis: the set over lists of scalars in which there is no relation: each generator has a place of its own.
func Basis(n int) (Set[msm.Free], api.Errno) {
	return setOf(n, api.MaxBasis, func(kind, i int) msm.Free { return unit(name{kind, i}.place(n)) })
}

// place: where the generator stands in All of a set with n of G.
func (g name) place(n int) int {
	switch g.kind {
	case api.GenLeft:
		return 3 + g.i
	case api.GenRight:
		return 3 + n + g.i
	}
	return g.kind - api.GenBase
}

// unit: 1 in a place, 0 everywhere else.
func unit(place int) msm.Free {
	list := make([]scalar.Scalar, place+1)
	list[place] = scalar.Int(1)
	return msm.Free{K: list}
}
