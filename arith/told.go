package arith

import (
	"slices"

	"veil/api"
	"veil/circuit"
	"veil/gens"
	"veil/ipa"
	"veil/msm"
	"veil/scalar"
	"veil/transcript"
)

// told: a proof with the challenges that an Oracle answered to it.
type told[P any] struct {
	about    subject
	weights  weighed
	view     View[P] // without l and r, which a proof does not tell
	argument ipa.Argument[P]
	w, c     scalar.Scalar
	us       []scalar.Scalar
}

// tell: a proof that fits is said to the Oracle.
func tell[P msm.Group[P]](g gens.Set[P], s *circuit.System, v []P, x Proof[P], o transcript.Oracle) (told[P], api.Errno) {
	if o == nil {
		return told[P]{}, api.ErrArg
	}
	about, e := subjectOf(s)
	if e != api.OK {
		return told[P]{}, e
	}
	if !enough(about, g) || !about.valued(len(v)) || !alike(about.rounds, len(x.L), len(x.R)) {
		return told[P]{}, api.ErrLength
	}

	d := told[P]{about: about, view: viewOf(x), argument: argumentOf(x)}
	t := talkAbout(o, about.system, v)
	say(t, ofWires, x)
	d.view.Y, d.view.Z = t.ask("y"), t.ask("z")
	say(t, ofPolynomial, x)
	d.view.X = t.ask("x")
	say(t, ofValues, x)
	d.w = t.ask("w")
	d.us = askRounds(t, about.size, d.argument)
	say(t, ofEnd, x)
	d.c = t.ask("c")
	if t.e != api.OK {
		return told[P]{}, t.e
	}
	d.weights = about.weigh(d.view.Y, d.view.Z)
	return d, api.OK
}

// terms: of c E1 + E2. P is any type here: so no group operation is done for them.
func (d told[P]) terms(g gens.Set[P], v []P) []msm.Term[P] {
	w, a, b := d.view, d.argument.A, d.argument.B
	first := firstTerms(g, v, d.weights, w)
	for i := range first {
		first[i].K = first[i].K.Mul(d.c)
	}
	both := []msm.Term[P]{
		{K: d.c.Mul(w.TauX).Sub(w.Mu), P: g.Blind},
		{K: d.w.Mul(w.That.Sub(a.Mul(b))), P: g.Q},
	}
	return slices.Concat(first, both, d.messages(), d.second(g))
}

// messages: the terms of L and R.
func (d told[P]) messages() []msm.Term[P] {
	var terms []msm.Term[P]
	down := scalar.InvertAll(d.us...)
	for t, u := range d.us {
		terms = append(terms,
			msm.Term[P]{K: u.Mul(u), P: d.argument.L[t]},
			msm.Term[P]{K: down[t].Mul(down[t]), P: d.argument.R[t]})
	}
	return terms
}

// second: the terms of the second equation, but those of Blind, Q, L and R. All rounds together fold G to the sum of weights times G, and h to that of their inverses times h: so a and b stand for a times the weights as l, and b times their inverses as r.
func (d told[P]) second(g gens.Set[P]) []msm.Term[P] {
	weights, _ := ipa.Weights(d.us)
	l := multiplied(d.argument.A, weights)
	// In the place whose bits are all turned stands the inverse.
	slices.Reverse(weights)
	r := multiplied(d.argument.B, weights)
	return secondTerms(g, d.weights, d.view, l, r)
}

// multiplied: each of them times k.
func multiplied(k scalar.Scalar, list []scalar.Scalar) []scalar.Scalar {
	products := make([]scalar.Scalar, len(list))
	for i, x := range list {
		products[i] = x.Mul(k)
	}
	return products
}
