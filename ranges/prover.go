package ranges

import (
	"slices"

	"veil/algebra"
	"veil/api"
	"veil/gens"
	"veil/msm"
	"veil/scalar"
)

// phase: what a Prover waits for.
type phase int

const (
	unmade   phase = iota // Begin didn't make it: it counts as nil
	waitsYZ               // for y and z
	waitsX                // for x
	finished              // for nothing more
)

// Prover: a prover that waits for its next challenge.
type Prover[P any] struct {
	phase  phase
	view   View[P] // what was said so far
	known  secret
	commit func(v, blind scalar.Scalar) P // v B + blind Blind
	l, r   polynomial                     // behind y and z
}

// polynomial: one for each place: their values at x.
type polynomial func(x scalar.Scalar) []scalar.Scalar

// secret: what a prover knows and made up.
type secret struct {
	p      api.Params
	aL, aR []scalar.Scalar // the bits of the values, and those less 1
	blinds []scalar.Scalar // of the commitments
	tape   Tape
}

// secretOf: by lists of its own.
func secretOf(p api.Params, vs []Opening, t Tape) secret {
	k := secret{p: p, tape: t.copied()}
	for _, v := range vs {
		k.blinds = append(k.blinds, v.Blind)
		for place := range p.Bits {
			bit := scalar.Int(v.V >> place & 1)
			k.aL, k.aR = append(k.aL, bit), append(k.aR, bit.Sub(bit.One()))
		}
	}
	return k
}

// Begin: the commitments, and the first message.
func Begin[P msm.Group[P]](g gens.Set[P], p api.Params, vs []Opening, t Tape) (*Prover[P], []P, View[P], api.Errno) {
	e := firstFault(allowed(p), enough(g, p), asMany(p, len(vs)), long(p.Size, len(t.SL), len(t.SR)), below(p, vs))
	if e != api.OK {
		return nil, nil, View[P]{}, e
	}
	r := &Prover[P]{phase: waitsYZ, known: secretOf(p, vs, t), commit: committer(g)}
	r.view.A, _ = gens.CommitVectors(g, r.known.aL, r.known.aR, t.Alpha)
	r.view.S, _ = gens.CommitVectors(g, t.SL, t.SR, t.Rho)
	return r, commitments(g, vs...), r.view, api.OK
}

// commitments: of openings.
func commitments[P msm.Group[P]](g gens.Set[P], vs ...Opening) []P {
	list := make([]P, len(vs))
	for j, v := range vs {
		list[j] = gens.Commit(g, scalar.Int(v.V), v.Blind)
	}
	return list
}

// committer: commits to scalars that come later. It keeps B and Blind by memory of their own, for an element that was handed in may be written into by then.
func committer[P msm.Group[P]](g gens.Set[P]) func(v, blind scalar.Scalar) P {
	var zero P
	own := gens.Set[P]{B: zero.Add(g.B), Blind: zero.Add(g.Blind)}
	return func(v, blind scalar.Scalar) P { return gens.Commit(own, v, blind) }
}

// refusal: of a call that answers these challenges, if it isn't their turn or one of them is 0.
func (r *Prover[P]) refusal(turn phase, challenges ...scalar.Scalar) api.Errno {
	return firstFault(
		look{func() bool { return r != nil && r.phase != unmade }, api.ErrArg},
		look{func() bool { return r.phase == turn }, api.ErrPhase},
		nonzero(challenges...),
	)
}

// Middle: behind y and z: the view with T1 and T2.
func (r *Prover[P]) Middle(y, z scalar.Scalar) (View[P], api.Errno) {
	if e := r.refusal(waitsYZ, y, z); e != api.OK {
		return View[P]{}, e
	}
	r.l, r.r = r.known.polynomials(y, z)
	t := product(r.l, r.r)
	r.view.T1, r.view.T2 = r.commit(t[1], r.known.tape.Tau1), r.commit(t[2], r.known.tape.Tau2)
	r.view.Y, r.view.Z = y.Least(), z.Least()
	r.phase = waitsX
	return r.view, api.OK
}

// Finish: behind x: the whole view.
func (r *Prover[P]) Finish(x scalar.Scalar) (View[P], api.Errno) {
	if e := r.refusal(waitsX, x); e != api.OK {
		return View[P]{}, e
	}
	whole := r.view
	whole.X = x.Least()
	whole.TauX, whole.Mu = r.known.blinded(whole.Z, x)
	whole.L, whole.R = r.l(x), r.r(x)
	whole.That, _ = algebra.Inner(whole.L, whole.R)
	// It will answer nothing more: so nothing more is known to it.
	*r = Prover[P]{phase: finished}
	return whole, api.OK
}

// polynomials: l and r.
func (k secret) polynomials(y, z scalar.Scalar) (l, r polynomial) {
	ys, bits := ofPlaces(k.p, y), ofBits(k.p, z)
	l = func(x scalar.Scalar) []scalar.Scalar {
		list := make([]scalar.Scalar, len(k.aL))
		for i := range list {
			list[i] = k.aL[i].Sub(z).Add(k.tape.SL[i].Mul(x))
		}
		return list
	}
	r = func(x scalar.Scalar) []scalar.Scalar {
		list := make([]scalar.Scalar, len(k.aR))
		for i := range list {
			turned := k.aR[i].Add(z).Add(k.tape.SR[i].Mul(x))
			list[i] = ys[i].Mul(turned).Add(bits[i])
		}
		return list
	}
	return l, r
}

// product: t0, t1 and t2 of <l(X), r(X)>, by its values at three places.
func product(l, r polynomial) []scalar.Scalar {
	places := []scalar.Scalar{scalar.Int(0), scalar.Int(1), scalar.Int(2)}
	var values []scalar.Scalar
	for _, x := range places {
		value, _ := algebra.Inner(l(x), r(x))
		values = append(values, value)
	}
	t, _ := algebra.Interpolate(places, values)
	return t
}

// blinded: taux and mu.
func (k secret) blinded(z, x scalar.Scalar) (taux, mu scalar.Scalar) {
	// As a polynomial in z: 0 + 0 z + g_0 z z + g_1 z^3 + ..
	ofBlinds := algebra.Eval(slices.Concat([]scalar.Scalar{{}, {}}, k.blinds), z)
	taux = algebra.Eval([]scalar.Scalar{ofBlinds, k.tape.Tau1, k.tape.Tau2}, x)
	return taux, algebra.Eval([]scalar.Scalar{k.tape.Alpha, k.tape.Rho}, x)
}
