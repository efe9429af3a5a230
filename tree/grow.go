package tree

import (
	"veil/algebra"
	"veil/api"
	"veil/gens"
	"veil/ipa"
	"veil/msm"
	"veil/ranges"
	"veil/scalar"
)

// grower: a prover that can be asked anew, and all that it is asked.
type grower[P msm.Group[P]] struct {
	g    gens.Set[P]
	p    api.Params
	vs   []ranges.Opening
	tape ranges.Tape
	c    Challenges
}

func (r grower[P]) atY(y scalar.Scalar) Y[P] {
	branch := Y[P]{Y: y.Least()}
	f := frameBehind(r.g, r.p, y)
	for _, z := range r.c.Zs {
		branch.Zs = append(branch.Zs, r.atZ(f, y, z))
	}
	return branch
}

func (r grower[P]) atZ(f *frame[P], y, z scalar.Scalar) Z[P] {
	var branch Z[P]
	for _, x := range r.c.Xs {
		view := r.view(y, z, x)
		branch.Z, branch.T1, branch.T2 = view.Z, view.T1, view.T2
		branch.Xs = append(branch.Xs, r.atX(f, view))
	}
	return branch
}

// view: what the prover says to these challenges. It begins anew each time, for a Prover answers once.
func (r grower[P]) view(y, z, x scalar.Scalar) ranges.View[P] {
	prover, _, view, _ := ranges.Begin(r.g, r.p, r.vs, r.tape)
	_, _ = prover.Middle(y, z)
	view, _ = prover.Finish(x)
	return view
}

func (r grower[P]) atX(f *frame[P], view ranges.View[P]) X[P] {
	branch := X[P]{X: view.X, TauX: view.TauX, Mu: view.Mu, That: view.That}
	for _, w := range r.c.Ws {
		node := r.node(f, r.g.Q.Times(w), view.L, view.R)
		branch.Ws = append(branch.Ws, W[P]{W: w.Least(), Node: node})
	}
	return branch
}

// node: what is said of a and b, round by round.
func (r grower[P]) node(f *frame[P], q P, a, b []scalar.Scalar) Node[P] {
	if len(a) == 1 {
		return Node[P]{A: a[0], B: b[0]}
	}
	var n Node[P]
	loG, hiG := halves(f.g)
	loH, hiH := halves(f.h)
	loA, hiA := halves(a)
	loB, hiB := halves(b)
	n.L, _ = ipa.Image(q, hiG, loH, loA, hiB)
	n.R, _ = ipa.Image(q, loG, hiH, hiA, loB)
	for i, down := range scalar.InvertAll(r.c.Us...) {
		up := r.c.Us[i]
		nextA, _ := algebra.Mix(up, loA, down, hiA)
		nextB, _ := algebra.Mix(down, loB, up, hiB)
		n.Kids = append(n.Kids, Kid[P]{U: up.Least(), Node: r.node(f.by(up, down), q, nextA, nextB)})
	}
	return n
}
