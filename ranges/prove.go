package ranges

import (
	"veil/api"
	"veil/gens"
	"veil/ipa"
	"veil/msm"
	"veil/transcript"
	"veil/wire"
)

// Prove: the commitments and the whole proof; the challenges are the oracle's.
func Prove[P msm.Group[P]](g gens.Set[P], p api.Params, vs []Opening, t Tape, o transcript.Oracle) ([]P, wire.Proof[P], api.Errno) {
	if o == nil {
		return nil, wire.Proof[P]{}, api.ErrArg
	}
	r, v, view, e := Begin(g, p, vs, t)
	if e != api.OK {
		return nil, wire.Proof[P]{}, e
	}

	// Behind an error of the Oracle all challenges are 0: then Middle and Finish answer nothing, and nothing is said.
	with := begin(o, p, v)
	view, _ = r.Middle(sayBits(with, view))
	view, _ = r.Finish(sayPolynomial(with, view))
	w := sayValues(with, view)
	if with.e != api.OK {
		return nil, wire.Proof[P]{}, with.e
	}
	x, e := ipa.Prove(g.Q.Times(w), g.G[:p.Size()], turned(g, p, view.Y), view.L, view.R, o)
	if failed(e) {
		return nil, wire.Proof[P]{}, e
	}
	sayEnd(with, x.A, x.B)
	if with.e != api.OK {
		return nil, wire.Proof[P]{}, with.e
	}
	return v, proofOf(view, x), api.OK
}

// proofOf: what is sent of a whole view and an argument.
func proofOf[P any](w View[P], x ipa.Argument[P]) wire.Proof[P] {
	return wire.Proof[P]{
		A: w.A, S: w.S, T1: w.T1, T2: w.T2,
		TauX: w.TauX, Mu: w.Mu, That: w.That,
		L: x.L, R: x.R, Ea: x.A, Eb: x.B,
	}
}
