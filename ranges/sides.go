package ranges

import (
	"veil/api"
	"veil/gens"
	"veil/msm"
	"veil/scalar"
)

// The terms of both equations are without those of Blind: by one sum it stands in one term alone, whatever both say of it.

// firstTerms: of E1, but Blind's.
func firstTerms[P any](g gens.Set[P], p api.Params, v []P, w View[P]) []msm.Term[P] {
	terms := []msm.Term[P]{
		{K: w.That.Sub(delta(p, w.Y, w.Z)), P: g.B},
		{K: w.X.Neg(), P: w.T1},
		{K: w.X.Mul(w.X).Neg(), P: w.T2},
	}
	for j, k := range ofValues(p, w.Z) {
		terms = append(terms, msm.Term[P]{K: k.Neg(), P: v[j]})
	}
	return terms
}

// secondTerms: of the second statement's P less <l, G> + <r, h>, but Blind's.
func secondTerms[P any](g gens.Set[P], p api.Params, w View[P], l, r []scalar.Scalar) []msm.Term[P] {
	terms := []msm.Term[P]{{K: scalar.Int(1), P: w.A}, {K: w.X, P: w.S}}
	down := ofPlaces(p, w.Y.Invert())
	for i, bit := range ofBits(p, w.Z) {
		// h_i is y^-i H_i: of z y^i h_i z H_i is left.
		ofH := w.Z.Add(down[i].Mul(bit.Sub(r[i])))
		terms = append(terms, msm.Term[P]{K: w.Z.Add(l[i]).Neg(), P: g.G[i]}, msm.Term[P]{K: ofH, P: g.H[i]})
	}
	return terms
}

// firstSide: E1.
func firstSide[P msm.Group[P]](g gens.Set[P], p api.Params, v []P, w View[P]) P {
	return total(append(firstTerms(g, p, v, w), msm.Term[P]{K: w.TauX, P: g.Blind}))
}

// secondSide: the second statement's P less <l, G> + <r, h>.
func secondSide[P msm.Group[P]](g gens.Set[P], p api.Params, w View[P], l, r []scalar.Scalar) P {
	return total(append(secondTerms(g, p, w, l, r), msm.Term[P]{K: w.Mu.Neg(), P: g.Blind}))
}

// few: so many terms at most are multiplied one by one: over the plain groups that is far cheaper than one sum, and over group.Point not much dearer.
const few = 20

// total: the sum of terms.
func total[P msm.Group[P]](terms []msm.Term[P]) P {
	if len(terms) <= few {
		return msm.Plain(terms...)
	}
	sum, _ := msm.Sum(terms...)
	return sum
}
