package ranges

import (
	"slices"

	"veil/api"
	"veil/gens"
	"veil/ipa"
	"veil/msm"
	"veil/scalar"
	"veil/transcript"
	"veil/wire"
)

// told: a proof with the challenges that an Oracle answered to it.
type told[P any] struct {
	view     View[P] // without l and r, which a proof does not tell
	argument ipa.Argument[P]
	w, c     scalar.Scalar
	us       []scalar.Scalar
}

// tell: a proof is said to the Oracle.
func tell[P msm.Group[P]](p api.Params, v []P, x wire.Proof[P], o transcript.Oracle) (told[P], api.Errno) {
	d := told[P]{
		view:     View[P]{A: x.A, S: x.S, T1: x.T1, T2: x.T2, TauX: x.TauX, Mu: x.Mu, That: x.That},
		argument: ipa.Argument[P]{L: x.L, R: x.R, A: x.Ea, B: x.Eb},
	}
	t := begin(o, p, v)
	d.view.Y, d.view.Z = sayBits(t, d.view)
	d.view.X = sayPolynomial(t, d.view)
	d.w = sayValues(t, d.view)
	d.us = sayRounds(t, p.Size(), d.argument)
	d.c = sayEnd(t, x.Ea, x.Eb)
	return d, t.e
}

// terms: of c E1 + E2. P is any type here: so no group operation is done for them.
func (d told[P]) terms(g gens.Set[P], p api.Params, v []P) []msm.Term[P] {
	w, a, b := d.view, d.argument.A, d.argument.B
	first := firstTerms(g, p, v, w)
	for i := range first {
		first[i].K = first[i].K.Mul(d.c)
	}
	both := []msm.Term[P]{
		{K: d.c.Mul(w.TauX).Sub(w.Mu), P: g.Blind},
		{K: d.w.Mul(w.That.Sub(a.Mul(b))), P: g.Q},
	}
	return slices.Concat(first, both, d.messages(), d.second(g, p))
}

// messages: the terms of L and R.
func (d told[P]) messages() []msm.Term[P] {
	var terms []msm.Term[P]
	down := scalar.InvertAll(d.us...)
	for t, u := range d.us {
		terms = append(terms,
			msm.Term[P]{K: u.Mul(u), P: d.argument.L[t]},
			msm.Term[P]{K: down[t].Mul(down[t]), P: d.argument.R[t]})
	}
	return terms
}

// second: the terms of the second equation, but those of Blind, Q, L and R. All rounds together fold G to the sum of weights times G, and h to that of their inverses times h: so a and b stand for a times the weights as l, and b times their inverses as r.
func (d told[P]) second(g gens.Set[P], p api.Params) []msm.Term[P] {
	weights, _ := ipa.Weights(d.us)
	l := multiplied(d.argument.A, weights)
	// In the place whose bits are all turned stands the inverse.
	slices.Reverse(weights)
	r := multiplied(d.argument.B, weights)
	return secondTerms(g, p, d.view, l, r)
}
