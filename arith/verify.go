package arith

import (
	"veil/algebra"
	"veil/api"
	"veil/circuit"
	"veil/gens"
	"veil/ipa"
	"veil/msm"
	"veil/scalar"
	"veil/transcript"
)

// Accepts: the verifier of a view.
func Accepts[P msm.Group[P]](g gens.Set[P], s *circuit.System, v []P, w View[P]) api.Errno {
	about, e := subjectOf(s)
	switch {
	case e != api.OK:
		return e
	case !enough(about, g) || !about.valued(len(v)) || !about.placed(len(w.L), len(w.R)):
		return api.ErrLength
	case anyZero(w.Y, w.Z, w.X):
		return api.ErrZero
	}
	at := about.weigh(w.Y, w.Z)
	that, _ := algebra.Inner(w.L, w.R)
	switch {
	case !isNeutral(firstSide(g, v, at, w)):
		return api.ErrFirst
	case !isNeutral(secondSide(g, at, w, w.L, w.R)):
		return api.ErrSecond
	case !that.Same(w.That):
		return api.ErrInner
	}
	return api.OK
}

// Statement: what the inner-product argument of a view is about, behind w.
func Statement[P msm.Group[P]](g gens.Set[P], s *circuit.System, w View[P], ch scalar.Scalar) (ipa.Statement[P], api.Errno) {
	about, e := subjectOf(s)
	switch {
	case e != api.OK:
		return ipa.Statement[P]{}, e
	case !enough(about, g):
		return ipa.Statement[P]{}, api.ErrLength
	case anyZero(ch, w.Y, w.Z, w.X):
		return ipa.Statement[P]{}, api.ErrZero
	}
	d := told[P]{about: about, weights: about.weigh(w.Y, w.Z), view: w, w: ch}
	whole := statement(g, d)
	whole.G = remade(whole.G)
	return whole, api.OK
}

// statement: that of the inner-product argument; its G is the one that was handed in.
func statement[P msm.Group[P]](g gens.Set[P], d told[P]) ipa.Statement[P] {
	nothing := make([]scalar.Scalar, d.about.size)
	q := g.Q.Times(d.w)
	return ipa.Statement[P]{
		P: secondSide(g, d.weights, d.view, nothing, nothing).Add(q.Times(d.view.That)),
		Q: q,
		G: g.G[:d.about.size],
		H: turned(d.about, g, d.view.Y),
	}
}

// remade: the same elements by memory of their own.
func remade[P msm.Group[P]](list []P) []P {
	var zero P
	own := make([]P, len(list))
	for i, a := range list {
		own[i] = zero.Add(a)
	}
	return own
}

// Sides: what is left of the first and of the second equation, and the weight between them.
func Sides[P msm.Group[P]](g gens.Set[P], s *circuit.System, v []P, x Proof[P], o transcript.Oracle) (first, second P, weight scalar.Scalar, e api.Errno) {
	d, e := tell(g, s, v, x, o)
	if e != api.OK {
		return first, second, weight, e
	}
	terms, _ := ipa.Terms(statement(g, d), d.argument, d.us)
	return firstSide(g, v, d.weights, d.view), total(terms), d.c, api.OK
}

// Rounds: the verifier that goes equation by equation, round by round.
func Rounds[P msm.Group[P]](g gens.Set[P], s *circuit.System, v []P, x Proof[P], o transcript.Oracle) api.Errno {
	d, e := tell(g, s, v, x, o)
	switch {
	case e != api.OK:
		return e
	case !isNeutral(firstSide(g, v, d.weights, d.view)):
		return api.ErrFirst
	case ipa.Verify(statement(g, d), d.argument, d.us) != api.OK:
		return api.ErrSecond
	}
	return api.OK
}

// Once: the verifier that asks one sum alone.
func Once[P msm.Group[P]](g gens.Set[P], s *circuit.System, v []P, x Proof[P], o transcript.Oracle) (bool, msm.Cost) {
	d, e := tell(g, s, v, x, o)
	if e != api.OK {
		return false, msm.Cost{}
	}
	sum, cost := msm.Sum(d.terms(g, v)...)
	return isNeutral(sum), cost
}
