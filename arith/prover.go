package arith

import (
	"slices"

	"veil/algebra"
	"veil/api"
	"veil/circuit"
	"veil/gens"
	"veil/msm"
	"veil/scalar"
)

// secret: what a prover knows and made up, by lists of its own.
type secret struct {
	aL, aR, aO []scalar.Scalar // one for each place
	v, blinds  []scalar.Scalar // one for each value
	tape       Tape
}

// secretOf: by lists of its own.
func secretOf(s subject, a circuit.Assignment, blinds []scalar.Scalar, t Tape) secret {
	t.SL, t.SR = slices.Clone(t.SL), slices.Clone(t.SR)
	return secret{
		aL: s.padded(a.L), aR: s.padded(a.R), aO: s.padded(a.O),
		v: slices.Clone(a.V), blinds: slices.Clone(blinds),
		tape: t,
	}
}

// prover: with what it has said so far.
type prover[P msm.Group[P]] struct {
	g      gens.Set[P]
	about  subject
	known  secret
	view   View[P]
	l, r   polynomial    // behind y and z
	blinds scalar.Scalar // the sum of wV times the blindings, behind z
}

// proverOf: of somebody whose assignment holds.
func proverOf[P msm.Group[P]](g gens.Set[P], s *circuit.System, a circuit.Assignment, blinds []scalar.Scalar, t Tape) (*prover[P], api.Errno) {
	about, e := subjectOf(s)
	if e != api.OK {
		return nil, e
	}
	if !enough(about, g) || !about.assigned(a, blinds) || !about.placed(len(t.SL), len(t.SR)) {
		return nil, api.ErrLength
	}
	if e := about.system.Holds(a); e != api.OK {
		return nil, e
	}
	return &prover[P]{g: g, about: about, known: secretOf(about, a, blinds, t)}, api.OK
}

// commitments: to the values.
func (r *prover[P]) commitments() []P {
	list := make([]P, len(r.known.v))
	for j, v := range r.known.v {
		list[j] = gens.Commit(r.g, v, r.known.blinds[j])
	}
	return list
}

// begin: AI, AO and S.
func (r *prover[P]) begin() {
	k := r.known
	r.view.AI, _ = gens.CommitVectors(r.g, k.aL, k.aR, k.tape.Alpha)
	r.view.AO, _ = gens.CommitVectors(r.g, k.aO, nil, k.tape.Beta)
	r.view.S, _ = gens.CommitVectors(r.g, k.tape.SL, k.tape.SR, k.tape.Rho)
}

// middle: behind y and z: T1 to T6.
func (r *prover[P]) middle(y, z scalar.Scalar) {
	r.view.Y, r.view.Z = y.Least(), z.Least()
	w := r.about.weigh(y, z)
	r.l, r.r = r.known.polynomials(w)
	r.blinds, _ = algebra.Inner(w.values, r.known.blinds)
	t, tape := product(r.l, r.r), r.known.tape
	r.view.T1 = gens.Commit(r.g, t[1], tape.Tau1)
	r.view.T3 = gens.Commit(r.g, t[3], tape.Tau3)
	r.view.T4 = gens.Commit(r.g, t[4], tape.Tau4)
	r.view.T5 = gens.Commit(r.g, t[5], tape.Tau5)
	r.view.T6 = gens.Commit(r.g, t[6], tape.Tau6)
}

// finish: behind x: the whole view.
func (r *prover[P]) finish(x scalar.Scalar) {
	t := r.known.tape
	r.view.X = x.Least()
	// In the place of t2's blinding, which nobody made up, stands that of the values.
	r.view.TauX = algebra.Eval([]scalar.Scalar{{}, t.Tau1, r.blinds, t.Tau3, t.Tau4, t.Tau5, t.Tau6}, x)
	r.view.Mu = algebra.Eval([]scalar.Scalar{{}, t.Alpha, t.Beta, t.Rho}, x)
	r.view.L, r.view.R = r.l(x), r.r(x)
	r.view.That, _ = algebra.Inner(r.view.L, r.view.R)
}

// Play: a prover's whole view, and the commitments, for challenges that are given.
func Play[P msm.Group[P]](g gens.Set[P], s *circuit.System, a circuit.Assignment, blinds []scalar.Scalar, t Tape, y, z, x scalar.Scalar) ([]P, View[P], api.Errno) {
	r, e := proverOf(g, s, a, blinds, t)
	if e != api.OK {
		return nil, View[P]{}, e
	}
	if anyZero(y, z, x) {
		return nil, View[P]{}, api.ErrZero
	}
	r.begin()
	r.middle(y, z)
	r.finish(x)
	return r.commitments(), r.view, api.OK
}

// anyZero: is one of them 0?
func anyZero(list ...scalar.Scalar) bool { return slices.ContainsFunc(list, scalar.Scalar.IsZero) }
