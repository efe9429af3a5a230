package ipa

import (
	"veil/algebra"
	"veil/api"
	"veil/msm"
	"veil/scalar"
	"veil/transcript"
)

// prover: what is left of a prover's lists behind some rounds.
//
// They are kept by other factors than the document's: a and h divided by the product of all challenges so far, g and b multiplied by it. Products of an a and a g, of a b and an h, of an a and a b are the same by that, so the messages are; but to fold takes one multiple of an element in place of two.
type prover[P msm.Group[P]] struct {
	q       P
	g, h    []P
	a, b    []scalar.Scalar
	product scalar.Scalar // of the challenges
}

// messages: L and R of the next round.
func (r prover[P]) messages() (left, right P) {
	loG, hiG := halves(r.g)
	loH, hiH := halves(r.h)
	loA, hiA := halves(r.a)
	loB, hiB := halves(r.b)
	return image(r.q, hiG, loH, loA, hiB), image(r.q, loG, hiH, hiA, loB)
}

// fold: what is left behind a round with this challenge.
func (r prover[P]) fold(u scalar.Scalar) prover[P] {
	one, up := scalar.Int(1), u.Mul(u)
	down := up.Invert()
	return prover[P]{
		q:       r.q,
		g:       raise(r.g, up),
		h:       raise(r.h, down),
		a:       mix(one, down, r.a),
		b:       mix(one, up, r.b),
		product: r.product.Mul(u),
	}
}

// last: the a and the b that are sent, when one of each is left.
func (r prover[P]) last() (a, b scalar.Scalar) {
	return r.a[0].Mul(r.product), r.b[0].Mul(r.product.Invert())
}

// raise: lo + k hi.
func raise[P msm.Group[P]](list []P, k scalar.Scalar) []P {
	lo, hi := halves(list)
	folded := make([]P, len(lo))
	for i := range folded {
		folded[i] = lo[i].Add(hi[i].Times(k))
	}
	return folded
}

// mix: x lo + y hi.
func mix(x, y scalar.Scalar, list []scalar.Scalar) []scalar.Scalar {
	lo, hi := halves(list)
	folded, _ := algebra.Mix(x, lo, y, hi)
	return folded
}

// begin: what is said ahead of all rounds.
func begin(o transcript.Oracle, size int) { o.Absorb("ipa", le64(size)) }

// ask: a round's elements are said; the challenge that the Oracle answers to them.
func ask[P msm.Group[P]](o transcript.Oracle, left, right P) (scalar.Scalar, api.Errno) {
	l, r := left.Encode(), right.Encode()
	o.Absorb("L", l[:])
	o.Absorb("R", r[:])
	u, e := o.Draw("u")
	if e != api.OK {
		return scalar.Scalar{}, e
	}
	// An Oracle of the caller's own may answer 0 with OK, and any limbs.
	if u.IsZero() {
		return scalar.Scalar{}, api.ErrZero
	}
	return u.Least(), api.OK
}

// le64: a number as 8 bytes, the lowest first.
func le64(n int) []byte {
	b := make([]byte, 8)
	for place := range b {
		b[place] = byte(n >> (8 * place))
	}
	return b
}
