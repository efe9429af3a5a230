package witness

import (
	"slices"

	"veil/algebra"
	"veil/api"
	"veil/arith"
	"veil/circuit"
	"veil/gens"
	"veil/ipa"
	"veil/msm"
	"veil/scalar"
	"veil/tree"
)

// hearing: what a tree's conversations are held against, and what is known by those that were heard.
type hearing[P msm.Group[P]] struct {
	g     gens.Set[P]
	v     []P
	begun Tree[P]
	basis gens.Set[msm.Free] // as many generators, of which an element tells its multiples itself
	known known
}

// hear: what is known by a tree that has the arities; false, if a conversation is not accepted.
func hear[P msm.Group[P]](g gens.Set[P], s *circuit.System, v []P, t Tree[P]) (known, bool) {
	basis, _ := gens.Basis(arith.Size(s))
	h := &hearing[P]{g: g, v: v, begun: t, basis: basis, known: make(assigned, ofV+len(v))}
	for _, y := range t.Ys {
		for _, z := range y.Zs {
			if !h.behind(momentOf(s, y.Y, z.Z), z) {
				return nil, false
			}
		}
	}
	return h.known, true
}

// behind: are all conversations behind a y and a z accepted?
func (h *hearing[P]) behind(at moment, z Z[P]) bool {
	terms, _ := msm.Zip(at.values, h.v)
	sum := msm.Plain(terms...)
	for _, x := range z.Xs {
		if !h.first(at, sum, z, x) || !h.second(at, z, x) {
			return false
		}
	}
	h.known = h.known.with(h.ofSum(at, z.Xs))
	return true
}

// first: does the first equation hold? The sum is that of wV_j V_j.
func (h *hearing[P]) first(at moment, sum P, z Z[P], x X[P]) bool {
	powers, _ := algebra.Powers(x.X, 7)
	terms, _ := msm.Zip(powers[1:], []P{z.T1, sum, z.T3, z.T4, z.T5, z.T6})
	return msm.Plain(terms...).Same(gens.Commit(h.g, beyond(at, x), x.TauX))
}

// beyond: that less x x (Delta + C).
func beyond[P any](at moment, x X[P]) scalar.Scalar {
	return x.That.Sub(square(x.X).Mul(at.fixed))
}

// ofSum: what the first equations behind a y and a z tell of the sum of wV_j V_j: in each it stands behind x x, between T1 and T3.
func (h *hearing[P]) ofSum(at moment, xs []X[P]) fact {
	// At 0 both sides are neutral: that is the seventh place.
	places, ofB, ofBlind := make([]scalar.Scalar, 1), make([]scalar.Scalar, 1), make([]scalar.Scalar, 1)
	for _, x := range xs {
		places, ofB, ofBlind = append(places, x.X), append(ofB, beyond(at, x)), append(ofBlind, x.TauX)
	}
	b, _ := algebra.Interpolate(places, ofB)
	blind, _ := algebra.Interpolate(places, ofBlind)
	return fact{
		of: slices.Concat(make([]scalar.Scalar, ofV), at.values),
		is: h.padded([]scalar.Scalar{byB: b[2], byBlind: blind[2]}),
	}
}

// padded: one for each generator.
func (h *hearing[P]) padded(list []scalar.Scalar) []scalar.Scalar {
	whole := make([]scalar.Scalar, byG+len(h.basis.G)+len(h.basis.H))
	copy(whole, list)
	return whole
}

// second: are both nodes behind an x accepted? What they tell is known then.
func (h *hearing[P]) second(at moment, z Z[P], x X[P]) bool {
	view := arith.View[P]{
		AI: h.begun.AI, AO: h.begun.AO, S: h.begun.S,
		T1: z.T1, T3: z.T3, T4: z.T4, T5: z.T5, T6: z.T6,
		Y: at.y, Z: at.z, X: x.X, TauX: x.TauX, Mu: x.Mu, That: x.That,
	}
	bare := arith.View[msm.Free]{Y: at.y, Z: at.z, X: x.X, Mu: x.Mu, That: x.That}
	for _, w := range x.Ws {
		whole, _ := arith.Statement(h.g, at.brief, view, w.W)
		a, b, relation, e := tree.Fold(whole, w.Node)
		if e != api.OK {
			return false
		}
		about, _ := arith.Statement(h.basis, at.brief, bare, w.W)
		h.known = h.known.with(h.ofNode(about, x.X, a, b, relation))
	}
	return true
}

// ofNode: what a node tells of AI, AO and S; or of none of them, if that is a relation. Over Basis, and with these three neutral, its statement tells what it says beside them.
func (h *hearing[P]) ofNode(about ipa.Statement[msm.Free], x scalar.Scalar, a, b, relation []scalar.Scalar) fact {
	of := make([]scalar.Scalar, ofV+len(h.v))
	if len(relation) > 0 {
		return fact{of, h.told(about, relation)}
	}
	of[ofAI], of[ofAO], of[ofS] = x, square(x), square(x).Mul(x)
	inner, _ := algebra.Inner(a, b)
	whole := h.told(about, slices.Concat([]scalar.Scalar{inner}, a, b))
	return fact{of, less(whole, scalar.Int(1), h.padded(about.P.K))}
}

// told: multiples of a statement's Q, G and H as multiples of the generators.
func (h *hearing[P]) told(about ipa.Statement[msm.Free], ks []scalar.Scalar) []scalar.Scalar {
	terms, _ := msm.Zip(ks, slices.Concat([]msm.Free{about.Q}, about.G, about.H))
	return h.padded(msm.Plain(terms...).K)
}
