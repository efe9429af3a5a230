package ipa

import (
	"slices"

	"veil/api"
	"veil/msm"
	"veil/scalar"
)

// Weights: the scalars by which the elements of g are multiplied in all rounds together.
func Weights(us []scalar.Scalar) ([]scalar.Scalar, api.Errno) {
	if len(us) > api.MaxRounds {
		return nil, api.ErrLength
	}
	if e := zeroAmong(us); e != api.OK {
		return nil, e
	}
	return weights(us), api.OK
}

// weights: of at most api.MaxRounds challenges, none of them 0.
func weights(us []scalar.Scalar) []scalar.Scalar {
	inverses := scalar.InvertAll(us...)
	list := []scalar.Scalar{scalar.Int(1)}
	for t, u := range us {
		// A round more is a bit more at the lower end of a place's number.
		longer := make([]scalar.Scalar, 0, 2*len(list))
		for _, w := range list {
			longer = append(longer, w.Mul(inverses[t]), w.Mul(u))
		}
		list = longer
	}
	return list
}

// Terms: an argument as one sum: it is right just if their sum is neutral.
func Terms[P msm.Group[P]](s Statement[P], x Argument[P], us []scalar.Scalar) ([]msm.Term[P], api.Errno) {
	if e := refusal(s, x, us); e != api.OK {
		return nil, e
	}
	terms := []msm.Term[P]{{K: scalar.Int(1), P: s.P}, {K: x.A.Mul(x.B).Neg(), P: s.Q}}
	inverses := scalar.InvertAll(us...)
	for t, u := range us {
		terms = append(terms,
			msm.Term[P]{K: u.Mul(u), P: x.L[t]},
			msm.Term[P]{K: inverses[t].Mul(inverses[t]), P: x.R[t]})
	}
	ofG := weights(us)
	// In the place whose bits are all turned stands the inverse: read backwards they are the weights of H.
	ofH := slices.Clone(ofG)
	slices.Reverse(ofH)
	return append(append(terms, multiplied(x.A.Neg(), ofG, s.G)...), multiplied(x.B.Neg(), ofH, s.H)...), api.OK
}

// multiplied: the terms of two lists of one length, all of them times k.
func multiplied[P msm.Group[P]](k scalar.Scalar, ks []scalar.Scalar, list []P) []msm.Term[P] {
	terms, _ := msm.Zip(ks, list)
	for i := range terms {
		terms[i].K = terms[i].K.Mul(k)
	}
	return terms
}
