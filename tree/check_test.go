package tree_test

// P1702: which trees are accepted, and which are none.

import (
	"math/big"
	"slices"
	"testing"

	"veil/api"
	"veil/gens"
	"veil/msm"
	"veil/sample"
	"veil/scalar"
	"veil/tree"
)

// checks: Check and Extract must answer this; beside an error nothing.
func checks[P msm.Group[P]](t *testing.T, what string, g gens.Set[P], p api.Params, v []P, x tree.Tree[P], want api.Errno) {
	t.Helper()
	errno(t, what+": Check", tree.Check(g, p, v, x), want)
	o, e := tree.Extract(g, p, v, x)
	errno(t, what+": Extract", e, want)
	if e != api.OK && len(o.Openings)+len(o.Relation) != 0 {
		t.Errorf("%s: %v beside an error", what, o)
	}
}

// unseen: what may be another one all the same: with one place alone y^0 is all that is asked of y, and without a round nothing is said behind w that hangs on it.
func unseen(p api.Params, name string) bool { return p.Size() == 1 && (name == "y" || name == "w") }

// changedOver: with one scalar or element of any conversation changed a tree is refused.
func changedOver[P msm.Group[P]](t *testing.T, m *sample.Maker, kind sample.Kind[P], w world, every int) {
	t.Helper()
	k, c := farSecret(m, w.p), anyAsked(m, w.p)
	g, v, x := grow(t, m, kind, w, k, c)
	other := numbers{far(m)}
	for i, at := range places(&x) {
		if i%every != 0 {
			continue
		}
		want := api.ErrLeaf
		if !at.counts || unseen(w.p, at.name) {
			want = api.OK
		}
		if at.k != nil {
			was := *at.k
			*at.k = m.Limbs(plus(number(was), far(m)))
			errno(t, "Check over "+kind.Name+" with another "+at.name, tree.Check(g, w.p, v, x), want)
			*at.k = was
		} else {
			was := *at.e
			*at.e = was.Add(kind.Of(m, other))
			errno(t, "Check over "+kind.Name+" with another "+at.name, tree.Check(g, w.p, v, x), want)
			*at.e = was
		}
	}
	for j := range v {
		was := v[j]
		v[j] = was.Add(kind.Of(m, other))
		checks(t, "another commitment", g, w.p, v, x, api.ErrLeaf)
		v[j] = was
	}
	checks(t, "as it was", g, w.p, v, x, api.OK)
}

func TestP1702OneChanged(t *testing.T) {
	t.Parallel()
	m := sample.Maker(1702)
	for _, p := range allParams(2) {
		changedOver(t, &m, sample.Lines(), plainWorld(&m, p), p.Size())
	}
	for _, p := range allParams(4) {
		changedOver(t, &m, sample.Lines(), plainWorld(&m, p), 211)
	}
}

func TestP1702OneChangedBasis(t *testing.T) {
	t.Parallel()
	m := sample.Maker(17029)
	one := api.Params{Bits: 1, Count: 1}
	changedOver(t, &m, sample.Frees(), basis(one), 1)
	changedOver(t, &m, sample.Boxes(), plainWorld(&m, one), 1)
	for _, p := range allParams(2) {
		changedOver(t, &m, sample.Frees(), basis(p), 3)
	}
	for _, p := range allParams(4) {
		changedOver(t, &m, sample.Frees(), basis(p), 499)
	}
}

func TestP1702OneChangedGreat(t *testing.T) {
	t.Parallel()
	m := sample.Maker(17020)
	p := api.Params{Bits: 8, Count: 1}
	changedOver(t, &m, sample.Lines(), plainWorld(&m, p), 2999)
}

func TestP1702OneChangedPoints(t *testing.T) {
	t.Parallel()
	m := sample.Maker(17021)
	changedOver(t, &m, sample.Points(), plainWorld(&m, api.Params{Bits: 1, Count: 1}), 1)
	changedOver(t, &m, sample.Points(), plainWorld(&m, api.Params{Bits: 2, Count: 1}), 41)
}

// Any changes, small numbers among them, and several at one time: accepted just if the document's words say so.
func TestP1702AsTheWordsSay(t *testing.T) {
	t.Parallel()
	m := sample.Maker(17022)
	right, wrong := 0, 0
	for range 60 {
		for _, p := range allParams(2) {
			w, k, c := anyWorld(&m, sample.Lines(), p), anySecret(&m, p), anyAsked(&m, p)
			x := w.grown(w.honest(k), c)
			list := places(&x)
			for range 1 + m.Next()%2 {
				at := list[m.Next()%uint64(len(list))]
				if at.k == nil {
					*at.e = numbers{m.Number()}
				} else if !slices.Contains([]string{"y", "z", "x", "w", "u"}, at.name) {
					*at.k = sample.Scalar(m.Number())
				}
			}
			if ok, _ := extract(t, "a changed tree", &m, sample.Lines(), w, w.commitments(k), x); ok {
				right++
			} else {
				wrong++
			}
		}
	}
	if right < 10 || wrong < 10 {
		t.Errorf("%d trees are accepted, %d are not", right, wrong)
	}
}

// What does not count may be anything: L and R of leaves, A and B of rounds.
func TestP1702WhatDoesNotCount(t *testing.T) {
	m := sample.Maker(17023)
	for _, p := range []api.Params{{Bits: 1, Count: 1}, {Bits: 2, Count: 1}, {Bits: 1, Count: 2}, {Bits: 4, Count: 1}} {
		k := farSecret(&m, p)
		g, v, x := grow(t, &m, sample.Frees(), basis(p), k, anyAsked(&m, p))
		for _, at := range places(&x) {
			if !at.counts && at.k != nil {
				*at.k = sample.Words(sample.Number(m.Bytes(32)))
			} else if !at.counts {
				*at.e = sample.Frees().Of(&m, sample.Frees().Any(&m))
			}
		}
		errno(t, "Check", tree.Check(g, p, v, x), api.OK)
		o, e := tree.Extract(g, p, v, x)
		opens(t, "Extract", o, e, k)
	}
}

// branch: one list of a tree, whose challenges are unlike.
type branch[P any] struct {
	name   string
	count  int
	at     func(i int) *scalar.Scalar
	shrink func() // the last one is left out
	more   func() // one more
	clear  func()
	square bool // unlike in their squares
}

// branchOf: of a list.
func branchOf[P, T any](name string, list *[]T, challenge func(*T) *scalar.Scalar) branch[P] {
	return branch[P]{
		name: name, count: len(*list),
		at:     func(i int) *scalar.Scalar { return challenge(&(*list)[i]) },
		shrink: func() { *list = (*list)[:len(*list)-1] },
		more: func() {
			last := (*list)[len(*list)-1]
			*challenge(&last) = num(987654321)
			*list = append(slices.Clone(*list), last)
		},
		clear:  func() { *list = nil },
		square: name == "kids",
	}
}

func nodeBranches[P any](n *tree.Node[P]) []branch[P] {
	if len(n.Kids) == 0 {
		return nil
	}
	list := []branch[P]{branchOf[P]("kids", &n.Kids, func(k *tree.Kid[P]) *scalar.Scalar { return &k.U })}
	for i := range n.Kids {
		list = append(list, nodeBranches(&n.Kids[i].Node)...)
	}
	return list
}

// branches: all lists of a tree.
func branches[P any](t *tree.Tree[P]) []branch[P] {
	list := []branch[P]{branchOf[P]("ys", &t.Ys, func(y *tree.Y[P]) *scalar.Scalar { return &y.Y })}
	for i := range t.Ys {
		y := &t.Ys[i]
		list = append(list, branchOf[P]("zs", &y.Zs, func(z *tree.Z[P]) *scalar.Scalar { return &z.Z }))
		for i := range y.Zs {
			z := &y.Zs[i]
			list = append(list, branchOf[P]("xs", &z.Xs, func(x *tree.X[P]) *scalar.Scalar { return &x.X }))
			for i := range z.Xs {
				x := &z.Xs[i]
				list = append(list, branchOf[P]("ws", &x.Ws, func(w *tree.W[P]) *scalar.Scalar { return &w.W }))
				for i := range x.Ws {
					list = append(list, nodeBranches(&x.Ws[i].Node)...)
				}
			}
		}
	}
	return list
}

// aLineTree: over Line, and what it is a tree of.
func aLineTree(t *testing.T, m *sample.Maker, p api.Params) (gens.Set[msm.Line], []msm.Line, tree.Tree[msm.Line]) {
	t.Helper()
	return grow(t, m, sample.Lines(), plainWorld(m, p), farSecret(m, p), farAsked(m, p))
}

// One branch too many, one too few, or none, anywhere in a tree.
func TestP1702Arities(t *testing.T) {
	t.Parallel()
	m := sample.Maker(17024)
	for _, p := range append(allParams(2), api.Params{Bits: 4, Count: 1}, api.Params{Bits: 8, Count: 1}) {
		g, v, x := aLineTree(t, &m, p)
		total := len(branches(&x))
		for i := 0; i < total; i += max(1, total/60) {
			for _, change := range []func(branch[msm.Line]){branch[msm.Line].Shrink, branch[msm.Line].More, branch[msm.Line].Clear} {
				other := copied(x)
				b := branches(&other)[i]
				change(b)
				checks(t, "other "+b.name, g, p, v, other, api.ErrArity)
			}
		}
	}
}

// Shrink, More and Clear as method expressions.
func (b branch[P]) Shrink() { b.shrink() }
func (b branch[P]) More()   { b.more() }
func (b branch[P]) Clear()  { b.clear() }

// Challenges that are 0, or the same by any limbs; and of kids' those of the same square.
func TestP1702Challenges(t *testing.T) {
	t.Parallel()
	m := sample.Maker(17025)
	for _, p := range append(allParams(2), api.Params{Bits: 4, Count: 1}) {
		g, v, x := aLineTree(t, &m, p)
		list := branches(&x)
		for i := 0; i < len(list); i += max(1, len(list)/30) {
			b := list[i]
			for j := range b.count {
				was := *b.at(j)
				for _, zero := range zeros() {
					*b.at(j) = zero
					checks(t, "a 0 among "+b.name, g, p, v, x, api.ErrArity)
				}
				for l := range b.count {
					if l == j {
						continue
					}
					for _, look := range sample.Scalars(number(*b.at(l))) {
						*b.at(j) = look
						checks(t, "the same among "+b.name, g, p, v, x, api.ErrArity)
					}
					*b.at(j) = m.Limbs(negative(number(*b.at(l))))
					if b.square {
						checks(t, "u and -u", g, p, v, x, api.ErrArity)
					} else if !unseen(p, b.name[:1]) {
						checks(t, "a challenge and its negative among "+b.name, g, p, v, x, api.ErrLeaf)
					}
				}
				*b.at(j) = was
			}
		}
		checks(t, "as it was", g, p, v, x, api.OK)
	}
}

// Kids behind a leaf, and a leaf where a round should be.
func TestP1702Rounds(t *testing.T) {
	m := sample.Maker(17026)
	for _, p := range []api.Params{{Bits: 1, Count: 1}, {Bits: 2, Count: 1}, {Bits: 1, Count: 2}, {Bits: 4, Count: 1}} {
		g, v, x := aLineTree(t, &m, p)
		four := []tree.Kid[msm.Line]{{U: num(1)}, {U: num(2)}, {U: num(3)}, {U: num(4)}}
		var leaf func(n *tree.Node[msm.Line]) *tree.Node[msm.Line]
		leaf = func(n *tree.Node[msm.Line]) *tree.Node[msm.Line] {
			if len(n.Kids) == 0 {
				return n
			}
			return leaf(&n.Kids[m.Next()%4].Node)
		}
		last := func(t *tree.Tree[msm.Line]) *tree.Node[msm.Line] {
			return &t.Ys[p.Size()-1].Zs[p.Count+1].Xs[2].Ws[1].Node
		}
		for count := 1; count <= 4; count++ {
			other := copied(x)
			leaf(last(&other)).Kids = four[:count]
			checks(t, "kids behind a leaf", g, p, v, other, api.ErrArity)
		}
		if p.Rounds() == 0 {
			continue
		}
		other := copied(x)
		last(&other).Kids[3].Node = tree.Node[msm.Line]{Kids: slices.Clone(four)}
		if p.Rounds() == 1 {
			checks(t, "a round too many", g, p, v, other, api.ErrArity)
		} else {
			checks(t, "a round of anything", g, p, v, other, api.ErrLeaf)
		}
		other = copied(x)
		*last(&other) = tree.Node[msm.Line]{A: num(1), B: num(2)}
		checks(t, "no rounds", g, p, v, other, api.ErrArity)
	}
}

// A list that holds itself: it is gone into no deeper than a tree may be.
func TestP1702NodeInItself(t *testing.T) {
	m := sample.Maker(17027)
	p := api.Params{Bits: 2, Count: 1}
	g, v, x := aLineTree(t, &m, p)
	kids := x.Ys[0].Zs[0].Xs[0].Ws[0].Node.Kids
	kids[1].Node.Kids = kids
	checks(t, "a list in itself", g, p, v, x, api.ErrArity)
}

// A tree of other Params, or under other challenges of its conversation, or for other commitments.
func TestP1702OtherStatements(t *testing.T) {
	m := sample.Maker(17028)
	p, q := api.Params{Bits: 2, Count: 1}, api.Params{Bits: 1, Count: 2}
	g, v, x := aLineTree(t, &m, p)
	checks(t, "other Params", g, q, append(slices.Clone(v), v[0]), x, api.ErrArity)
	h, u, y := aLineTree(t, &m, q)
	checks(t, "other Params", h, p, u[:1], y, api.ErrArity)
	checks(t, "commitments in another order", h, q, []msm.Line{u[1], u[0]}, y, api.ErrLeaf)
	other := copied(x)
	other.Ys[0].Zs[0], other.Ys[1].Zs[0] = other.Ys[1].Zs[0], other.Ys[0].Zs[0]
	checks(t, "parts behind another y", g, p, v, other, api.ErrLeaf)
	other = copied(x)
	slices.Reverse(other.Ys)
	slices.Reverse(other.Ys[0].Zs)
	slices.Reverse(other.Ys[0].Zs[0].Xs)
	slices.Reverse(other.Ys[0].Zs[0].Xs[0].Ws)
	slices.Reverse(other.Ys[0].Zs[0].Xs[0].Ws[0].Node.Kids)
	checks(t, "branches in another order", g, p, v, other, api.OK)
	_, where := tree.Extract(g, p, v, other)
	errno(t, "Extract in another order", where, api.OK)
	if a, b := mustOpen(t, g, p, v, x), mustOpen(t, g, p, v, other); a != b {
		t.Errorf("in another order another opening: %v, %v", a, b)
	}
}

// mustOpen: the one opening.
func mustOpen(t *testing.T, g gens.Set[msm.Line], p api.Params, v []msm.Line, x tree.Tree[msm.Line]) string {
	t.Helper()
	o, e := tree.Extract(g, p, v, x)
	errno(t, "Extract", e, api.OK)
	if len(o.Openings) != 1 {
		t.Fatalf("no opening: %v", o)
	}
	return new(big.Int).SetUint64(o.Openings[0].V).String() + " " + number(o.Openings[0].Blind).String()
}
