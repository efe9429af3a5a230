package witness_test

// P2202: which trees are accepted, and which are none.

import (
	"math/big"
	"slices"
	"testing"

	"veil/api"
	"veil/circuit"
	"veil/gens"
	"veil/msm"
	"veil/sample"
	"veil/scalar"
	"veil/tree"
	"veil/witness"
)

// empty: is nothing told?
func empty(o witness.Outcome) bool {
	a := o.Assignment
	return len(a.L)+len(a.R)+len(a.O)+len(a.V)+len(o.Blinds)+len(o.Relation) == 0
}

// checks: Check and Extract must answer this; beside an error nothing.
func checks[P msm.Group[P]](t *testing.T, what string, g gens.Set[P], s *circuit.System, v []P, x witness.Tree[P], want api.Errno) {
	t.Helper()
	errno(t, what+": Check", witness.Check(g, s, v, x), want)
	o, e := witness.Extract(g, s, v, x)
	errno(t, what+": Extract", e, want)
	if e != api.OK && !empty(o) {
		t.Errorf("%s: %v beside an error", what, o)
	}
}

// unseen: what may be another one all the same: with one place alone y^0 is all that is asked of y, and without a round nothing is said behind w that hangs on it; and where requirements have no terms nothing hangs on z.
func unseen(s system, name string) bool {
	terms := slices.ContainsFunc(s.requires, func(r []term) bool { return len(r) > 0 })
	return s.size() == 1 && (name == "y" || name == "w") || !terms && name == "z"
}

// changedOver: with one scalar or element of any conversation changed a tree is refused.
func changedOver[P msm.Group[P]](t *testing.T, m *sample.Maker, kind sample.Kind[P], w world, k secret, every int) {
	t.Helper()
	g, s, v, x := grow(t, m, kind, w, k, anyAsked(m, w.system))
	other := numbers{far(m)}
	for i, at := range places(&x) {
		if i%every != 0 {
			continue
		}
		want := api.ErrLeaf
		if !at.counts || unseen(w.system, at.name) {
			want = api.OK
		}
		if at.k != nil {
			was := *at.k
			*at.k = m.Limbs(plus(number(was), far(m)))
			errno(t, "Check over "+kind.Name+" with another "+at.name, witness.Check(g, s, v, x), want)
			*at.k = was
		} else {
			was := *at.e
			*at.e = was.Add(kind.Of(m, other))
			errno(t, "Check over "+kind.Name+" with another "+at.name, witness.Check(g, s, v, x), want)
			*at.e = was
		}
		if t.Failed() {
			t.Fatalf("%d values, %d gates, %d requirements", w.values, w.gates, len(w.requires))
		}
	}
	for j := range v {
		was := v[j]
		v[j] = was.Add(kind.Of(m, other))
		checks(t, "another commitment", g, s, v, x, api.ErrLeaf)
		v[j] = was
	}
	checks(t, "as it was", g, s, v, x, api.OK)
}

func changedLines(t *testing.T, m *sample.Maker, list []shape, every int) {
	t.Helper()
	for _, h := range list {
		s, k := farCase(m, h)
		changedOver(t, m, sample.Lines(), plainWorld(m, s), k, every)
	}
}

func changedBasis(t *testing.T, m *sample.Maker, list []shape, every int) {
	t.Helper()
	for _, h := range list {
		s, k := farCase(m, h)
		changedOver(t, m, sample.Frees(), basis(s), k, every)
	}
}

func TestP2202OneChanged(t *testing.T) {
	t.Parallel()
	m := sample.Maker(2202)
	changedLines(t, &m, append(tiny(), small()[0]), 1)
	changedLines(t, &m, small(), 31)
	changedLines(t, &m, middle(), 2503)
}

func TestP2202OneChangedBasis(t *testing.T) {
	t.Parallel()
	m := sample.Maker(22021)
	changedBasis(t, &m, tiny(), 2)
	changedBasis(t, &m, small(), 53)
	changedBasis(t, &m, middle(), 4001)
	s, k := farCase(&m, shape{1, 1, 1})
	changedOver(t, &m, sample.Boxes(), plainWorld(&m, s), k, 1)
}

func TestP2202OneChangedGreat(t *testing.T) {
	t.Parallel()
	m := sample.Maker(22022)
	changedLines(t, &m, []shape{{2, 5, 0}}, 20011)
}

func TestP2202OneChangedPoints(t *testing.T) {
	t.Parallel()
	m := sample.Maker(22023)
	for i, h := range []shape{{1, 1, 0}, {0, 0, 1}, {1, 2, 0}} {
		s, k := farCase(&m, h)
		changedOver(t, &m, sample.Points(), plainWorld(&m, s), k, []int{3, 3, 149}[i])
	}
}

// Any changes, small numbers among them, and several at one time: accepted just if the document's words say so.
func TestP2202AsTheWordsSay(t *testing.T) {
	t.Parallel()
	m := sample.Maker(22024)
	right, wrong := 0, 0
	for range 20 {
		for _, h := range append(tiny(), small()[:4]...) {
			s, k := anyCase(&m, h)
			w := anyWorld(&m, sample.Lines(), s)
			x := w.grown(w.honest(k), anyAsked(&m, s))
			list := places(&x)
			for range 1 + m.Next()%2 {
				at := list[m.Next()%uint64(len(list))]
				if at.k == nil {
					*at.e = numbers{m.Number()}
				} else if !isChallenge(at.name) {
					*at.k = sample.Scalar(m.Number())
				}
			}
			if ok, _ := extract(t, "a changed tree", &m, sample.Lines(), w, w.commitments(k), x); ok {
				right++
			} else {
				wrong++
			}
		}
	}
	if right < 10 || wrong < 10 {
		t.Errorf("%d trees are accepted, %d are not", right, wrong)
	}
}

// What does not count may be anything: L and R of leaves, A and B of rounds.
func TestP2202WhatDoesNotCount(t *testing.T) {
	m := sample.Maker(22025)
	for _, h := range []shape{{0, 0, 0}, {1, 1, 1}, {1, 2, 1}, {1, 3, 1}} {
		s, k := farCase(&m, h)
		g, given, v, x := grow(t, &m, sample.Frees(), basis(s), k, anyAsked(&m, s))
		for _, at := range places(&x) {
			if !at.counts && at.k != nil {
				*at.k = sample.Words(sample.Number(m.Bytes(32)))
			} else if !at.counts {
				*at.e = sample.Frees().Of(&m, sample.Frees().Any(&m))
			}
		}
		errno(t, "Check", witness.Check(g, given, v, x), api.OK)
		o, e := witness.Extract(g, given, v, x)
		tells(t, "Extract", o, e, k)
	}
}

// branch: one list of a tree, whose challenges are unlike.
type branch struct {
	name   string
	count  int
	at     func(i int) *scalar.Scalar
	change []func() // the last one left out, one more, none, the first one left out
	square bool     // unlike in their squares
}

// branchOf: of a list.
func branchOf[T any](name string, list *[]T, challenge func(*T) *scalar.Scalar) branch {
	return branch{
		name: name, count: len(*list),
		at: func(i int) *scalar.Scalar { return challenge(&(*list)[i]) },
		change: []func(){
			func() { *list = (*list)[:len(*list)-1] },
			func() {
				last := (*list)[len(*list)-1]
				*challenge(&last) = num(987654321)
				*list = append(slices.Clone(*list), last)
			},
			func() { *list = nil },
			func() { *list = (*list)[1:] },
		},
		square: name == "kids",
	}
}

func nodeBranches[P any](n *tree.Node[P]) []branch {
	if len(n.Kids) == 0 {
		return nil
	}
	list := []branch{branchOf("kids", &n.Kids, func(k *tree.Kid[P]) *scalar.Scalar { return &k.U })}
	for i := range n.Kids {
		list = append(list, nodeBranches(&n.Kids[i].Node)...)
	}
	return list
}

// branches: all lists of a tree.
func branches[P any](t *witness.Tree[P]) []branch {
	list := []branch{branchOf("ys", &t.Ys, func(y *witness.Y[P]) *scalar.Scalar { return &y.Y })}
	for i := range t.Ys {
		y := &t.Ys[i]
		list = append(list, branchOf("zs", &y.Zs, func(z *witness.Z[P]) *scalar.Scalar { return &z.Z }))
		for i := range y.Zs {
			z := &y.Zs[i]
			list = append(list, branchOf("xs", &z.Xs, func(x *witness.X[P]) *scalar.Scalar { return &x.X }))
			for i := range z.Xs {
				x := &z.Xs[i]
				list = append(list, branchOf("ws", &x.Ws, func(w *tree.W[P]) *scalar.Scalar { return &w.W }))
				for i := range x.Ws {
					list = append(list, nodeBranches(&x.Ws[i].Node)...)
				}
			}
		}
	}
	return list
}

// aLineTree: over Line, and what it is a tree of.
func aLineTree(t *testing.T, m *sample.Maker, h shape) (system, gens.Set[msm.Line], *circuit.System, []msm.Line, witness.Tree[msm.Line]) {
	t.Helper()
	s, k := farCase(m, h)
	g, given, v, x := grow(t, m, sample.Lines(), plainWorld(m, s), k, farAsked(m, s))
	return s, g, given, v, x
}

// One branch too many, one too few, or none, anywhere in a tree.
func TestP2202Arities(t *testing.T) {
	t.Parallel()
	m := sample.Maker(22026)
	for _, h := range append(append(tiny(), small()...), shape{1, 3, 1}, shape{0, 5, 1}) {
		_, g, s, v, x := aLineTree(t, &m, h)
		total := len(branches(&x))
		for i := 0; i < total; i += max(1, total/60) {
			for change := range 4 {
				other := copied(x)
				b := branches(&other)[i]
				b.change[change]()
				checks(t, "other "+b.name, g, s, v, other, api.ErrArity)
			}
		}
	}
}

// Challenges that are 0, or the same by any limbs; and of kids' those of the same square.
func TestP2202Challenges(t *testing.T) {
	t.Parallel()
	m := sample.Maker(22027)
	for _, h := range append(append(tiny(), small()...), shape{1, 3, 0}) {
		s, g, given, v, x := aLineTree(t, &m, h)
		list := branches(&x)
		for i := 0; i < len(list); i += max(1, len(list)/12) {
			b := list[i]
			for j := range b.count {
				was := *b.at(j)
				for _, zero := range zeros() {
					*b.at(j) = zero
					checks(t, "a 0 among "+b.name, g, given, v, x, api.ErrArity)
				}
				l := (j + 1 + int(m.Next()%uint64(max(1, b.count-1)))) % b.count
				if l != j {
					for _, look := range sample.Scalars(number(*b.at(l))) {
						*b.at(j) = look
						checks(t, "the same among "+b.name, g, given, v, x, api.ErrArity)
					}
					*b.at(j) = m.Limbs(negative(number(*b.at(l))))
					if b.square {
						checks(t, "u and -u", g, given, v, x, api.ErrArity)
					} else if !unseen(s, b.name[:1]) {
						checks(t, "a challenge and its negative among "+b.name, g, given, v, x, api.ErrLeaf)
					}
				}
				*b.at(j) = was
			}
		}
		checks(t, "as it was", g, given, v, x, api.OK)
	}
}

// Kids behind a leaf, and a leaf where a round should be.
func TestP2202Rounds(t *testing.T) {
	m := sample.Maker(22028)
	for _, h := range []shape{{0, 0, 0}, {1, 1, 0}, {1, 2, 0}, {0, 3, 1}} {
		s, g, given, v, x := aLineTree(t, &m, h)
		four := []tree.Kid[msm.Line]{{U: num(1)}, {U: num(2)}, {U: num(3)}, {U: num(4)}}
		var leaf func(n *tree.Node[msm.Line]) *tree.Node[msm.Line]
		leaf = func(n *tree.Node[msm.Line]) *tree.Node[msm.Line] {
			if len(n.Kids) == 0 {
				return n
			}
			return leaf(&n.Kids[m.Next()%4].Node)
		}
		last := func(t *witness.Tree[msm.Line]) *tree.Node[msm.Line] {
			return &t.Ys[s.size()-1].Zs[len(s.requires)].Xs[5].Ws[1].Node
		}
		for count := 1; count <= 4; count++ {
			other := copied(x)
			leaf(last(&other)).Kids = four[:count]
			checks(t, "kids behind a leaf", g, given, v, other, api.ErrArity)
		}
		if s.rounds() == 0 {
			continue
		}
		other := copied(x)
		last(&other).Kids[3].Node = tree.Node[msm.Line]{Kids: slices.Clone(four)}
		if s.rounds() == 1 {
			checks(t, "a round too many", g, given, v, other, api.ErrArity)
		} else {
			checks(t, "a round of anything", g, given, v, other, api.ErrLeaf)
		}
		other = copied(x)
		*last(&other) = tree.Node[msm.Line]{A: num(1), B: num(2)}
		checks(t, "no rounds", g, given, v, other, api.ErrArity)
	}
}

// A list that holds itself: it is gone into no deeper than a tree may be.
func TestP2202NodeInItself(t *testing.T) {
	m := sample.Maker(22029)
	_, g, s, v, x := aLineTree(t, &m, shape{1, 2, 0})
	kids := x.Ys[0].Zs[0].Xs[0].Ws[0].Node.Kids
	kids[1].Node.Kids = kids
	checks(t, "a list in itself", g, s, v, x, api.ErrArity)
}

// A tree under another system, or under other challenges of its conversation, or for other commitments.
func TestP2202OtherStatements(t *testing.T) {
	m := sample.Maker(220290)
	_, g, s, v, x := aLineTree(t, &m, shape{2, 2, 1})
	more := s.Clone()
	more.Require(nil)
	checks(t, "one requirement more", g, more, v, x, api.ErrArity)
	wider := s.Clone()
	wider.Gate()
	checks(t, "one gate more", g, wider, v, x, api.ErrLength)
	g.G, g.H = append(g.G, line(5), line(6)), append(g.H, line(7), line(8))
	checks(t, "one gate more, and generators", g, wider, v, x, api.ErrArity)
	checks(t, "commitments in another order", g, s, []msm.Line{v[1], v[0]}, x, api.ErrLeaf)

	other := copied(x)
	other.Ys[0].Zs[0], other.Ys[1].Zs[0] = other.Ys[1].Zs[0], other.Ys[0].Zs[0]
	checks(t, "parts behind another y", g, s, v, other, api.ErrLeaf)
	other = copied(x)
	other.Ys[0].Zs[0].Xs, other.Ys[0].Zs[1].Xs = other.Ys[0].Zs[1].Xs, other.Ys[0].Zs[0].Xs
	checks(t, "parts behind another z", g, s, v, other, api.ErrLeaf)
	other = copied(x)
	other.Ys[0].Zs[0].Xs[2].Ws[0].Node, other.Ys[0].Zs[0].Xs[2].Ws[1].Node = other.Ys[0].Zs[0].Xs[2].Ws[1].Node, other.Ys[0].Zs[0].Xs[2].Ws[0].Node
	checks(t, "nodes behind another w", g, s, v, other, api.ErrLeaf)

	other = copied(x)
	slices.Reverse(other.Ys)
	slices.Reverse(other.Ys[0].Zs)
	slices.Reverse(other.Ys[0].Zs[0].Xs)
	slices.Reverse(other.Ys[0].Zs[0].Xs[0].Ws)
	slices.Reverse(other.Ys[0].Zs[0].Xs[0].Ws[0].Node.Kids)
	checks(t, "branches in another order", g, s, v, other, api.OK)
	first, _ := witness.Extract(g, s, v, x)
	second, _ := witness.Extract(g, s, v, other)
	if len(first.Relation)+len(second.Relation) != 0 || !slices.Equal(first.Assignment.L, second.Assignment.L) || !slices.Equal(first.Blinds, second.Blinds) {
		t.Errorf("in another order another outcome: %v, %v", first, second)
	}
}

// The same requirements in another order, or with another factor, are another system: with as many branches, but not the tree's.
func TestP2202OtherRequirements(t *testing.T) {
	m := sample.Maker(220291)
	s, k := farCase(&m, shape{1, 2, 3})
	w, c := plainWorld(&m, s), farAsked(&m, s)
	g, given, v, x := grow(t, &m, sample.Lines(), w, k, c)
	swapped := s
	swapped.requires = slices.Clone(s.requires)
	swapped.requires[1], swapped.requires[3] = s.requires[3], s.requires[1]
	checks(t, "other requirements", g, systemOf(&m, swapped), v, x, api.ErrLeaf)
	for q := 1; q < 4; q++ {
		for i := range s.requires[q] {
			other := s
			other.requires = slices.Clone(s.requires)
			other.requires[q] = slices.Clone(s.requires[q])
			other.requires[q][i].k = plus(other.requires[q][i].k, big.NewInt(1))
			checks(t, "another factor", g, systemOf(&m, other), v, x, api.ErrLeaf)
		}
	}
	checks(t, "as it was", g, given, v, x, api.OK)
}
