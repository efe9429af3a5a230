package ranges

import (
	"veil/algebra"
	"veil/api"
	"veil/gens"
	"veil/ipa"
	"veil/msm"
	"veil/scalar"
	"veil/transcript"
	"veil/wire"
)

// Accepts: the verifier of a view.
func Accepts[P msm.Group[P]](g gens.Set[P], p api.Params, v []P, w View[P]) api.Errno {
	return firstFault(
		allowed(p),
		enough(g, p),
		asMany(p, len(v)),
		long(p.Size, len(w.L), len(w.R)),
		nonzero(w.Y, w.Z, w.X),
		neutral(func() P { return firstSide(g, p, v, w) }, api.ErrFirst),
		neutral(func() P { return secondSide(g, p, w, w.L, w.R) }, api.ErrSecond),
		look{func() bool {
			that, _ := algebra.Inner(w.L, w.R)
			return that.Same(w.That)
		}, api.ErrInner},
	)
}

// Statement: what the inner-product argument of a view is about, behind w.
func Statement[P msm.Group[P]](g gens.Set[P], p api.Params, w View[P], ch scalar.Scalar) (q, s P, h []P, e api.Errno) {
	if e := firstFault(allowed(p), enough(g, p), nonzero(ch, w.Y, w.Z, w.X)); e != api.OK {
		return q, s, nil, e
	}
	about := statement(g, p, w, ch)
	return about.Q, about.P, about.H, api.OK
}

// statement: that of a view's inner-product argument, behind challenges that are not 0.
func statement[P msm.Group[P]](g gens.Set[P], p api.Params, w View[P], ch scalar.Scalar) ipa.Statement[P] {
	nothing := make([]scalar.Scalar, p.Size())
	q := g.Q.Times(ch)
	return ipa.Statement[P]{
		P: secondSide(g, p, w, nothing, nothing).Add(q.Times(w.That)),
		Q: q,
		G: g.G[:p.Size()],
		H: turned(g, p, w.Y),
	}
}

// turned: h: y^-i H_i.
func turned[P msm.Group[P]](g gens.Set[P], p api.Params, y scalar.Scalar) []P {
	h := make([]P, p.Size())
	for i, k := range ofPlaces(p, y.Invert()) {
		h[i] = g.H[i].Times(k)
	}
	return h
}

// heard: a proof that fits, with the challenges that the Oracle answers to it.
func heard[P msm.Group[P]](g gens.Set[P], p api.Params, v []P, x wire.Proof[P], o transcript.Oracle) (told[P], api.Errno) {
	e := firstFault(there(o), allowed(p), enough(g, p), asMany(p, len(v)), long(p.Rounds, len(x.L), len(x.R)))
	if e != api.OK {
		return told[P]{}, e
	}
	return tell(p, v, x, o)
}

// Rounds: the verifier that goes equation by equation, round by round.
func Rounds[P msm.Group[P]](g gens.Set[P], p api.Params, v []P, x wire.Proof[P], o transcript.Oracle) api.Errno {
	d, e := heard(g, p, v, x, o)
	if e != api.OK {
		return e
	}
	return firstFault(
		neutral(func() P { return firstSide(g, p, v, d.view) }, api.ErrFirst),
		look{func() bool { return !failed(ipa.Verify(statement(g, p, d.view, d.w), d.argument, d.us)) }, api.ErrSecond},
	)
}

// Sides: what is left of the first and of the second equation, and the weight between them.
func Sides[P msm.Group[P]](g gens.Set[P], p api.Params, v []P, x wire.Proof[P], o transcript.Oracle) (first, second P, weight scalar.Scalar, e api.Errno) {
	d, e := heard(g, p, v, x, o)
	if e != api.OK {
		return first, second, weight, e
	}
	terms, _ := ipa.Terms(statement(g, p, d.view, d.w), d.argument, d.us)
	return firstSide(g, p, v, d.view), total(terms), d.c, api.OK
}

// Terms: the one sum of the verifier, as its terms.
func Terms[P msm.Group[P]](g gens.Set[P], p api.Params, v []P, x wire.Proof[P], o transcript.Oracle) ([]msm.Term[P], api.Errno) {
	d, e := heard(g, p, v, x, o)
	if e != api.OK {
		return nil, e
	}
	return d.terms(g, p, v), api.OK
}

// Once: the verifier that asks one sum alone; what it cost.
func Once[P msm.Group[P]](g gens.Set[P], p api.Params, v []P, x wire.Proof[P], o transcript.Oracle) (bool, msm.Cost) {
	terms, e := Terms(g, p, v, x, o)
	if e != api.OK {
		return false, msm.Cost{}
	}
	sum, cost := msm.Sum(terms...)
	return isNeutral(sum), cost
}

// Bound: the most group operations that Once does.
func Bound(p api.Params) int {
	if !p.Allowed() {
		return 0
	}
	return msm.Bound(2*p.Size() + p.Count + 2*p.Rounds() + 7)
}
