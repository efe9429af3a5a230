package arith

import (
	"veil/algebra"
	"veil/gens"
	"veil/msm"
	"veil/scalar"
)

// The terms of both equations are without those of Blind: by one sum it stands in one term alone, whatever both say of it.

// firstTerms: of E1, but Blind's.
func firstTerms[P any](g gens.Set[P], v []P, at weighed, w View[P]) []msm.Term[P] {
	x, _ := algebra.Powers(w.X, 7)
	known := at.delta().Add(at.constant)
	terms := []msm.Term[P]{
		{K: w.That.Sub(x[2].Mul(known)), P: g.B},
		{K: x[1].Neg(), P: w.T1},
		{K: x[3].Neg(), P: w.T3},
		{K: x[4].Neg(), P: w.T4},
		{K: x[5].Neg(), P: w.T5},
		{K: x[6].Neg(), P: w.T6},
	}
	for j, k := range at.values {
		terms = append(terms, msm.Term[P]{K: x[2].Mul(k).Neg(), P: v[j]})
	}
	return terms
}

// secondTerms: of the second statement's P less <l, G> + <r, h>, but Blind's.
func secondTerms[P any](g gens.Set[P], at weighed, w View[P], l, r []scalar.Scalar) []msm.Term[P] {
	x, _ := algebra.Powers(w.X, 4)
	terms := []msm.Term[P]{{K: x[1], P: w.AI}, {K: x[2], P: w.AO}, {K: x[3], P: w.S}}
	for i, down := range at.down {
		ofG := x[1].Mul(at.right[i]).Sub(l[i])
		// h_i is y^-i H_i.
		ofH := x[1].Mul(at.left[i]).Add(at.out[i]).Sub(at.up[i]).Sub(r[i]).Mul(down)
		terms = append(terms, msm.Term[P]{K: ofG, P: g.G[i]}, msm.Term[P]{K: ofH, P: g.H[i]})
	}
	return terms
}

// firstSide: E1.
func firstSide[P msm.Group[P]](g gens.Set[P], v []P, at weighed, w View[P]) P {
	return total(append(firstTerms(g, v, at, w), msm.Term[P]{K: w.TauX, P: g.Blind}))
}

// secondSide: the second statement's P less <l, G> + <r, h>.
func secondSide[P msm.Group[P]](g gens.Set[P], at weighed, w View[P], l, r []scalar.Scalar) P {
	return total(append(secondTerms(g, at, w, l, r), msm.Term[P]{K: w.Mu.Neg(), P: g.Blind}))
}

// turned: h: y^-i H_i.
func turned[P msm.Group[P]](s subject, g gens.Set[P], y scalar.Scalar) []P {
	h := make([]P, s.size)
	down, _ := algebra.Powers(y.Invert(), s.size)
	for i, k := range down {
		h[i] = g.H[i].Times(k)
	}
	return h
}

// few: so many terms at most are multiplied one by one: over the plain groups that is far cheaper than one sum, and over group.Point not much dearer.
const few = 20

// total: the sum of terms.
func total[P msm.Group[P]](terms []msm.Term[P]) P {
	if len(terms) <= few {
		return msm.Plain(terms...)
	}
	sum, _ := msm.Sum(terms...)
	return sum
}

// isNeutral: is it the neutral element?
func isNeutral[P msm.Group[P]](a P) bool {
	var zero P
	return a.Same(zero)
}
