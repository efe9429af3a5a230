package tree

import (
	"iter"

	"veil/algebra"
	"veil/api"
	"veil/gens"
	"veil/ipa"
	"veil/msm"
	"veil/ranges"
	"veil/scalar"
)

// accepted: are all conversations of a tree that has the arities?
func accepted[P msm.Group[P]](g gens.Set[P], p api.Params, v []P, t Tree[P]) bool {
	for _, y := range t.Ys {
		f := frameBehind(g, p, y.Y)
		for _, z := range y.Zs {
			for view, ws := range views(t, y, z) {
				if !firstHolds(g, p, v, view) || !secondHolds(g, p, f, view, ws) {
					return false
				}
			}
		}
	}
	return true
}

// views: all that is said behind a y and a z ahead of the inner-product argument, one x after the other, and how it goes on.
func views[P any](t Tree[P], y Y[P], z Z[P]) iter.Seq2[ranges.View[P], []W[P]] {
	return func(yield func(ranges.View[P], []W[P]) bool) {
		for _, x := range z.Xs {
			view := ranges.View[P]{
				A: t.A, S: t.S, T1: z.T1, T2: z.T2,
				Y: y.Y, Z: z.Z, X: x.X,
				TauX: x.TauX, Mu: x.Mu, That: x.That,
			}
			if !yield(view, x.Ws) {
				return
			}
		}
	}
}

// firstHolds: the first equation.
func firstHolds[P msm.Group[P]](g gens.Set[P], p api.Params, v []P, w ranges.View[P]) bool {
	terms, _ := msm.Zip(weightsOf(p, w.Z), v)
	terms = append(terms, msm.Term[P]{K: w.X, P: w.T1}, msm.Term[P]{K: square(w.X), P: w.T2})
	return msm.Plain(terms...).Same(gens.Commit(g, beyond(p, w), w.TauX))
}

// weightsOf: z z, z^3, ..: one for each commitment.
func weightsOf(p api.Params, z scalar.Scalar) []scalar.Scalar {
	powers, _ := algebra.Powers(z, 2+p.Count)
	return powers[2:]
}

// beyond: that less Delta.
func beyond[P any](p api.Params, w ranges.View[P]) scalar.Scalar {
	delta, _ := ranges.Delta(p, w.Y, w.Z)
	return w.That.Sub(delta)
}

// secondHolds: are all nodes behind a view accepted?
func secondHolds[P msm.Group[P]](g gens.Set[P], p api.Params, f *frame[P], view ranges.View[P], ws []W[P]) bool {
	for _, w := range ws {
		q, s, _, _ := ranges.Statement(g, p, view, w.W)
		if !f.accepts(s, q, w.Node) {
			return false
		}
	}
	return true
}

// accepts: is a node accepted for the statement (p, q, g, h)?
func (f *frame[P]) accepts(p, q P, n Node[P]) bool {
	if len(n.Kids) == 0 {
		image, _ := ipa.Image(q, f.g, f.h, []scalar.Scalar{n.A}, []scalar.Scalar{n.B})
		return image.Same(p)
	}
	ups, downs := n.challenges()
	for i, kid := range n.Kids {
		next := n.L.Times(square(ups[i])).Add(p).Add(n.R.Times(square(downs[i])))
		if !f.by(ups[i], downs[i]).accepts(next, q, kid.Node) {
			return false
		}
	}
	return true
}

// challenges: of all kids, and their inverses.
func (n Node[P]) challenges() (ups, downs []scalar.Scalar) {
	ups = each(n.Kids, func(k Kid[P]) scalar.Scalar { return k.U })
	return ups, scalar.InvertAll(ups...)
}
