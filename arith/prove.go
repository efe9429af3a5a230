package arith

import (
	"veil/api"
	"veil/circuit"
	"veil/gens"
	"veil/ipa"
	"veil/msm"
	"veil/scalar"
	"veil/transcript"
)

// Prove: the commitments and the whole proof.
func Prove[P msm.Group[P]](g gens.Set[P], s *circuit.System, a circuit.Assignment, blinds []scalar.Scalar, t Tape, o transcript.Oracle) ([]P, Proof[P], api.Errno) {
	if o == nil {
		return nil, Proof[P]{}, api.ErrArg
	}
	r, e := proverOf(g, s, a, blinds, t)
	if e != api.OK {
		return nil, Proof[P]{}, e
	}
	v := r.commitments()
	w, e := r.speak(talkAbout(o, r.about.system, v))
	if e != api.OK {
		return nil, Proof[P]{}, e
	}
	x, e := r.argue(w, o)
	if e != api.OK {
		return nil, Proof[P]{}, e
	}
	return v, proofOf(r.view, x), api.OK
}

// speak: the moves up to w.
func (r *prover[P]) speak(t *talk) (w scalar.Scalar, e api.Errno) {
	said := func(m move) { say(t, m, proofOf(r.view, ipa.Argument[P]{})) }
	r.begin()
	said(ofWires)
	y, z := t.ask("y"), t.ask("z")
	if t.e != api.OK {
		return w, t.e
	}
	r.middle(y, z)
	said(ofPolynomial)
	x := t.ask("x")
	if t.e != api.OK {
		return w, t.e
	}
	r.finish(x)
	said(ofValues)
	w = t.ask("w")
	return w, t.e
}

// argue: the inner-product argument for l and r, behind w, up to c.
func (r *prover[P]) argue(w scalar.Scalar, o transcript.Oracle) (ipa.Argument[P], api.Errno) {
	x, e := ipa.Prove(r.g.Q.Times(w), r.g.G[:r.about.size], turned(r.about, r.g, r.view.Y), r.view.L, r.view.R, o)
	if e != api.OK {
		return ipa.Argument[P]{}, e
	}
	t := &talk{o: o}
	say(t, ofEnd, proofOf(r.view, x))
	t.ask("c")
	return x, t.e
}
