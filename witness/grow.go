package witness

import (
	"veil/algebra"
	"veil/arith"
	"veil/circuit"
	"veil/gens"
	"veil/ipa"
	"veil/msm"
	"veil/scalar"
	"veil/tree"
)

// grower: a prover that can be asked anew, and all that it is asked.
type grower[P msm.Group[P]] struct {
	g      gens.Set[P]
	briefs []*circuit.System // one for each z
	a      circuit.Assignment
	blinds []scalar.Scalar
	tape   arith.Tape
	c      tree.Challenges
	downs  []scalar.Scalar // the inverses of the us
}

// growerOf: of challenges that are none of them 0.
func growerOf[P msm.Group[P]](g gens.Set[P], s *circuit.System, a circuit.Assignment, blinds []scalar.Scalar, t arith.Tape, c tree.Challenges) grower[P] {
	r := grower[P]{g: g, a: a, blinds: blinds, tape: t, c: c, downs: scalar.InvertAll(c.Us...)}
	for _, z := range c.Zs {
		flat, _ := s.Flatten(z)
		r.briefs = append(r.briefs, briefOf(s, z, flat))
	}
	return r
}

func (r grower[P]) atY(y scalar.Scalar) Y[P] {
	branch := Y[P]{Y: y.Least()}
	f := r.frameBehind(y)
	for i, z := range r.c.Zs {
		branch.Zs = append(branch.Zs, r.atZ(f, r.briefs[i], y, z))
	}
	return branch
}

func (r grower[P]) atZ(f frame[P], brief *circuit.System, y, z scalar.Scalar) Z[P] {
	var branch Z[P]
	for _, x := range r.c.Xs {
		_, view, _ := arith.Play(r.g, brief, r.a, r.blinds, r.tape, y, z, x)
		branch.Z = view.Z
		branch.T1, branch.T3, branch.T4, branch.T5, branch.T6 = view.T1, view.T3, view.T4, view.T5, view.T6
		branch.Xs = append(branch.Xs, r.atX(f, view))
	}
	return branch
}

func (r grower[P]) atX(f frame[P], view arith.View[P]) X[P] {
	branch := X[P]{X: view.X, TauX: view.TauX, Mu: view.Mu, That: view.That}
	for _, w := range r.c.Ws {
		node := r.node(f, r.g.Q.Times(w), view.L, view.R)
		branch.Ws = append(branch.Ws, tree.W[P]{W: w.Least(), Node: node})
	}
	return branch
}

// node: what is said of a and b, round by round.
func (r grower[P]) node(f frame[P], q P, a, b []scalar.Scalar) tree.Node[P] {
	if len(f.kids) == 0 {
		return tree.Node[P]{A: a[0], B: b[0]}
	}
	var n tree.Node[P]
	loG, hiG := halves(f.g)
	loH, hiH := halves(f.h)
	loA, hiA := halves(a)
	loB, hiB := halves(b)
	n.L, _ = ipa.Image(q, hiG, loH, loA, hiB)
	n.R, _ = ipa.Image(q, loG, hiH, hiA, loB)
	for i, kid := range f.kids {
		up, down := r.c.Us[i], r.downs[i]
		nextA, _ := algebra.Mix(up, loA, down, hiA)
		nextB, _ := algebra.Mix(down, loB, up, hiB)
		n.Kids = append(n.Kids, tree.Kid[P]{U: up.Least(), Node: r.node(kid, q, nextA, nextB)})
	}
	return n
}

// frame: g and h of a statement, and the frames to which each of the us folds it. All conversations behind one y have the same.
type frame[P any] struct {
	g, h []P
	kids []frame[P]
}

// frameBehind: that of G and h, behind a y.
func (r grower[P]) frameBehind(y scalar.Scalar) frame[P] {
	one := scalar.Int(1)
	// G and h of a statement hang on nothing but y.
	about, _ := arith.Statement(r.g, r.briefs[0], arith.View[P]{Y: y, Z: one, X: one}, one)
	return r.frame(about.G, about.H)
}

func (r grower[P]) frame(g, h []P) frame[P] {
	f := frame[P]{g: g, h: h}
	if len(g) == 1 {
		return f
	}
	for i, up := range r.c.Us {
		down := r.downs[i]
		f.kids = append(f.kids, r.frame(blend(down, up, g), blend(up, down, h)))
	}
	return f
}

// blend: x lo + y hi.
func blend[P msm.Group[P]](x, y scalar.Scalar, list []P) []P {
	lo, hi := halves(list)
	sums := make([]P, len(lo))
	for i := range sums {
		sums[i] = lo[i].Times(x).Add(hi[i].Times(y))
	}
	return sums
}

// halves: of a list of an even length. The first has no room behind it, for that is the second.
func halves[T any](list []T) (lo, hi []T) {
	middle := len(list) / 2
	return list[:middle:middle], list[middle:]
}
