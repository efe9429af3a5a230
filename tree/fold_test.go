package tree_test

// P1704: what is known by one node.

import (
	"math/big"
	"slices"
	"testing"

	"veil/api"
	"veil/gens"
	"veil/ipa"
	"veil/msm"
	"veil/sample"
	"veil/scalar"
	"veil/tree"
)

// anyStated: any numbers for a statement of this size.
func anyStated[P msm.Group[P]](m *sample.Maker, kind sample.Kind[P], size int) stated {
	return stated{p: kind.Any(m), q: kind.Any(m), g: anyList(m, kind, size), h: anyList(m, kind, size)}
}

// plainStated: of one number each, none of them 0 or small.
func plainStated(m *sample.Maker, size int) stated {
	s := stated{p: numbers{far(m)}, q: numbers{far(m)}}
	for range size {
		s.g, s.h = append(s.g, numbers{far(m)}), append(s.h, numbers{far(m)})
	}
	return s
}

// basisStated: generators without a relation.
func basisStated(size int) stated {
	w := basis(api.Params{Bits: size, Count: 1})
	return stated{q: w.q, g: w.g, h: w.h}
}

func statementOf[P msm.Group[P]](m *sample.Maker, kind sample.Kind[P], s stated) ipa.Statement[P] {
	return ipa.Statement[P]{P: kind.Of(m, s.p), Q: kind.Of(m, s.q), G: elements(m, kind, s.g), H: elements(m, kind, s.h)}
}

// fold: what Fold answers must be known of the node, by any limbs and looks. Is it accepted, and does a relation come out?
func fold[P msm.Group[P]](t *testing.T, what string, m *sample.Maker, kind sample.Kind[P], s stated, n aNode) (ok, relation bool) {
	t.Helper()
	what += " over " + kind.Name
	a, b, r, e := tree.Fold(statementOf(m, kind, s), nodeOf(m, kind, n))
	if !s.accepts(n) {
		errno(t, what, e, api.ErrFold)
		if len(a)+len(b)+len(r) != 0 {
			t.Errorf("%s: %v, %v, %v beside an error", what, a, b, r)
		}
		return false, false
	}
	errno(t, what, e, api.OK)
	if len(r) != 0 {
		if len(a)+len(b) != 0 {
			t.Fatalf("%s: %v and %v beside a relation", what, a, b)
		}
		isRelation(t, what, r, slices.Concat([]numbers{s.q}, s.g, s.h))
		return true, true
	}
	if len(a) != len(s.g) || len(b) != len(s.g) || !isLeast(a) || !isLeast(b) || !s.image(numbersOf(a), numbersOf(b)).Same(s.p) {
		t.Fatalf("%s: the image of %v and %v is another one", what, a, b)
	}
	return true, false
}

// foldOver: the node of somebody who knows a and b, as it is and with something changed.
func foldOver[P msm.Group[P]](t *testing.T, m *sample.Maker, kind sample.Kind[P], sizes ...int) {
	t.Helper()
	for _, size := range sizes {
		s := anyStated(m, kind, size)
		a, b := someNumbers(m, size), someNumbers(m, size)
		s.p = s.image(a, b)
		n := s.grown(a, b, unlikeSquares(m, 4))
		if ok, _ := fold(t, "a grown node", m, kind, s, n); !ok {
			t.Fatal("a grown node is not accepted")
		}
		other := s
		other.p = s.p.Plus(kind.Any(m))
		fold(t, "another p", m, kind, other, n)
		other = s
		other.q = kind.Any(m)
		fold(t, "another q", m, kind, other, n)
		for _, at := range nodePlaces(&n) {
			if at.name == "u" || m.Next()%uint64(size) != 0 {
				continue
			}
			if at.k != nil {
				was := *at.k
				*at.k = sample.Scalar(m.Number())
				fold(t, "another "+at.name, m, kind, s, n)
				*at.k = was
			} else {
				was := *at.e
				*at.e = kind.Any(m)
				fold(t, "another "+at.name, m, kind, s, n)
				*at.e = was
			}
		}
	}
}

func TestP1704Nodes(t *testing.T) {
	t.Parallel()
	m := sample.Maker(1704)
	for range 4 {
		foldOver(t, &m, sample.Lines(), 1, 2, 4)
		foldOver(t, &m, sample.Frees(), 1, 2, 4)
		foldOver(t, &m, sample.Boxes(), 1, 2, 4)
	}
	foldOver(t, &m, sample.Lines(), 8)
	foldOver(t, &m, sample.Frees(), 8)
	foldOver(t, &m, sample.Points(), 1, 2)
}

// Sizes beyond those of a tree: a node alone has no limit but its statement's.
func TestP1704GreatNodes(t *testing.T) {
	t.Parallel()
	m := sample.Maker(17040)
	for _, size := range []int{16, 32} {
		s := plainStated(&m, size)
		a, b := farNumbers(&m, size), farNumbers(&m, size)
		s.p = s.image(a, b)
		n := s.grown(a, b, farNumbers(&m, 4))
		if ok, relation := fold(t, "a great node", &m, sample.Lines(), s, n); !ok || relation {
			t.Fatal("a great node tells no a and b")
		}
		last := &n
		for len(last.Kids) > 0 {
			last = &last.Kids[3].Node
		}
		last.A = last.A.Add(num(1))
		fold(t, "a great node with its last a changed", &m, sample.Lines(), s, n)
	}
}

// A node of all rounds that there may be, in which all are zeros: four kids stand for all of a round.
func TestP1704Rounds(t *testing.T) {
	t.Parallel()
	node := tree.Node[msm.Line]{}
	for size := 1; size <= 64; size *= 2 {
		s := ipa.Statement[msm.Line]{Q: line(3), G: make([]msm.Line, size), H: make([]msm.Line, size)}
		a, b, r, e := tree.Fold(s, node)
		errno(t, "Fold of zeros", e, api.OK)
		if len(a) != size || len(b) != size || len(r) != 0 {
			t.Fatalf("Fold of zeros: %v, %v, %v", a, b, r)
		}
		for _, wrong := range []int{size / 2, 2 * size} {
			if wrong > 0 {
				s.G, s.H = make([]msm.Line, wrong), make([]msm.Line, wrong)
				_, _, _, e = tree.Fold(s, node)
				errno(t, "Fold of a node of other rounds", e, api.ErrArity)
			}
		}
		var kids []tree.Kid[msm.Line]
		for u := range 4 {
			kids = append(kids, tree.Kid[msm.Line]{U: num(int64(u + 1)), Node: node})
		}
		node = tree.Node[msm.Line]{Kids: kids}
	}
}

// Where there is no relation just a and b come out.
func TestP1704Basis(t *testing.T) {
	t.Parallel()
	m := sample.Maker(17041)
	kind := sample.Frees()
	for _, size := range []int{1, 1, 2, 2, 2, 4, 4, 8, 8, 16} {
		s := basisStated(size)
		a, b := someNumbers(&m, size), someNumbers(&m, size)
		s.p = s.image(a, b)
		gotA, gotB, r, e := tree.Fold(statementOf(&m, kind, s), nodeOf(&m, kind, s.grown(a, b, unlikeSquares(&m, 4))))
		errno(t, "Fold over Basis", e, api.OK)
		if len(r) != 0 || !isLeast(gotA) || !isLeast(gotB) || len(gotA) != size || len(gotB) != size || !numbersOf(gotA).Same(a) || !numbersOf(gotB).Same(b) {
			t.Fatalf("Fold over Basis: %v, %v, %v", gotA, gotB, r)
		}
	}
}

// The statement of a range proof, and the node that Grow makes of it: l and r come out.
func TestP1704OfATree(t *testing.T) {
	m := sample.Maker(17042)
	for _, p := range allParams(4) {
		w, k, c := basis(p), farSecret(&m, p), farAsked(&m, p)
		g, _, x := grow(t, &m, sample.Frees(), w, k, c)
		left, right := w.lists(w.honest(k), c.ys[0], c.zs[1])
		at := w.statement(w.grown(w.honest(k), c), c.ys[0], c.zs[1], w.grownZ(w.grown(w.honest(k), c), w.honest(k), c, c.ys[0], c.zs[1]).Xs[2], c.ws[1])
		s := statementOf(&m, sample.Frees(), at)
		s.G = g.G[:p.Size()]
		a, b, r, e := tree.Fold(s, x.Ys[0].Zs[1].Xs[2].Ws[1].Node)
		errno(t, "Fold of a tree's node", e, api.OK)
		if len(r) != 0 || !numbersOf(a).Same(left[0].Plus(left[1].Times(c.xs[2]))) || !numbersOf(b).Same(right[0].Plus(right[1].Times(c.xs[2]))) {
			t.Fatalf("%v: %v, %v, %v", p, a, b, r)
		}
	}
}

// Nodes of anything that are accepted all the same: over groups of one number, generators 0 among them.
func TestP1704NobodyGrew(t *testing.T) {
	t.Parallel()
	m := sample.Maker(17043)
	relations := 0
	for range 30 {
		for _, size := range []int{1, 2, 4, 8} {
			s := anyStated(&m, sample.Lines(), size)
			n, ok := s.solved(&m)
			if !ok {
				continue
			}
			if _, relation := fold(t, "a node that nobody grew", &m, sample.Lines(), s, n); relation {
				relations++
			}
			fold(t, "a node that nobody grew", &m, sample.Boxes(), s, n)
		}
	}
	if relations < 30 {
		t.Errorf("%d relations alone", relations)
	}
	s := plainStated(&m, 2)
	n, _ := s.solved(&m)
	if ok, relation := fold(t, "a node that nobody grew", &m, sample.Points(), s, n); !ok || !relation {
		t.Error("a node of anything tells no relation")
	}
}

// One kid, at any depth, is of other lists than the others: they agree with each other otherwise.
func TestP1704OneKidAstray(t *testing.T) {
	t.Parallel()
	m := sample.Maker(17044)
	for _, size := range []int{2, 4, 8} {
		for depth := 1; 1<<depth <= size; depth++ {
			for i := range 4 {
				s := plainStated(&m, size)
				a, b, us := farNumbers(&m, size), farNumbers(&m, size), farNumbers(&m, 4)
				s.p = s.image(a, b)
				n := s.grown(a, b, us)
				at, kid := s, &n
				for range depth {
					at, kid = at.folded(kid.L, kid.R, number(kid.Kids[i].U)), &kid.Kids[i].Node
				}
				a, b = at.otherLists(&m, true)
				*kid = at.grown(a, b, us)
				if ok, relation := fold(t, "a kid astray", &m, sample.Lines(), s, n); !ok || !relation {
					t.Fatalf("size %d, depth %d: accepted %v, a relation %v", size, depth, ok, relation)
				}
			}
		}
	}
}

func TestP1704Lengths(t *testing.T) {
	four := tree.Node[msm.Line]{Kids: []tree.Kid[msm.Line]{{U: num(1)}, {U: num(2)}, {U: num(3)}, {U: num(4)}}}
	for _, n := range []tree.Node[msm.Line]{{}, {A: num(1)}, four} {
		for _, c := range [][2]int{{0, 0}, {0, 1}, {1, 0}, {1, 2}, {2, 1}, {2, 4}, {3, 3}, {5, 5}, {6, 6}, {7, 7}, {12, 12}, {1023, 1023}, {1025, 1025}, {2048, 2048}, {1024, 1023}} {
			a, b, r, e := tree.Fold(ipa.Statement[msm.Line]{P: line(9), G: make([]msm.Line, c[0]), H: make([]msm.Line, c[1])}, n)
			errno(t, "Fold", e, api.ErrLength)
			if len(a)+len(b)+len(r) != 0 {
				t.Errorf("%v, %v, %v beside an error", a, b, r)
			}
		}
	}
	for size := 2; size <= api.MaxSize; size *= 2 {
		s := ipa.Statement[msm.Line]{G: make([]msm.Line, size), H: make([]msm.Line, size)}
		_, _, _, e := tree.Fold(s, tree.Node[msm.Line]{})
		errno(t, "Fold of a leaf", e, api.ErrArity)
	}
}

// Arities come ahead of what is accepted: wrong ones at any depth, with a p that fits to nothing.
func TestP1704Arities(t *testing.T) {
	t.Parallel()
	m := sample.Maker(17045)
	for _, size := range []int{1, 2, 4, 8} {
		s := plainStated(&m, size)
		a, b := farNumbers(&m, size), farNumbers(&m, size)
		s.p = s.image(a, b)
		n := s.grown(a, b, farNumbers(&m, 4))
		given, wrong := statementOf(&m, sample.Lines(), s), statementOf(&m, sample.Lines(), s)
		wrong.P = line(9)
		same := func(k scalar.Scalar) scalar.Scalar { return k }
		node := nodeOf(&m, sample.Lines(), n)
		fails := func(what string, n tree.Node[msm.Line]) {
			t.Helper()
			for _, s := range []ipa.Statement[msm.Line]{given, wrong} {
				a, b, r, e := tree.Fold(s, n)
				errno(t, what, e, api.ErrArity)
				if len(a)+len(b)+len(r) != 0 {
					t.Errorf("%s: %v, %v, %v beside an error", what, a, b, r)
				}
			}
		}
		total := len(nodeBranches(&node))
		for i := range total {
			for _, change := range []func(branch[msm.Line]){
				branch[msm.Line].Shrink, branch[msm.Line].More, branch[msm.Line].Clear,
				func(b branch[msm.Line]) { *b.at(int(m.Next() % 4)) = m.Limbs(new(big.Int)) },
				func(b branch[msm.Line]) { *b.at(0) = m.Limbs(number(*b.at(3))) },
				func(b branch[msm.Line]) { *b.at(2) = m.Limbs(negative(number(*b.at(1)))) },
			} {
				other := turnNode(node, func(a msm.Line) msm.Line { return a }, same)
				change(nodeBranches(&other)[i])
				fails("other kids", other)
			}
		}
		deeper := turnNode(node, func(a msm.Line) msm.Line { return a }, same)
		leaf := &deeper
		for len(leaf.Kids) > 0 {
			leaf = &leaf.Kids[m.Next()%4].Node
		}
		leaf.Kids = []tree.Kid[msm.Line]{{U: num(1)}, {U: num(2)}, {U: num(3)}, {U: num(4)}}
		fails("kids behind a leaf", deeper)
		_, _, _, e := tree.Fold(wrong, node)
		errno(t, "Fold of another p", e, api.ErrFold)
		_, _, _, e = tree.Fold(given, node)
		errno(t, "Fold", e, api.OK)
	}
}

// Kids' challenges u and -u stand in one node never, in two nodes they may.
func TestP1704OppositeInOtherNodes(t *testing.T) {
	m := sample.Maker(17046)
	s := plainStated(&m, 4)
	a, b, us := farNumbers(&m, 4), farNumbers(&m, 4), farNumbers(&m, 4)
	s.p = s.image(a, b)
	n := s.grown(a, b, us)
	var back numbers
	for _, u := range us {
		back = append(back, negative(u))
	}
	n.Kids[2].Node = s.folded(n.L, n.R, us[2]).grown(
		numbers(lo(a)).Times(us[2]).Plus(numbers(hi(a)).Times(inverse(us[2]))),
		numbers(lo(b)).Times(inverse(us[2])).Plus(numbers(hi(b)).Times(us[2])), back)
	if ok, relation := fold(t, "opposite challenges", &m, sample.Lines(), s, n); !ok || relation {
		t.Error("opposite challenges in two nodes are not taken")
	}
}

// Join and Fold know the same of one round: over Basis the same a and b.
func TestP1704AsJoin(t *testing.T) {
	m := sample.Maker(17047)
	for _, size := range []int{2, 4} {
		g, _ := gens.Basis(size)
		s := ipa.Statement[msm.Free]{Q: g.Q, G: g.G, H: g.H}
		world := basisStated(size)
		a, b := farNumbers(&m, size), farNumbers(&m, size)
		world.p = world.image(a, b)
		s.P = sample.Frees().Of(&m, world.p)
		n := nodeOf(&m, sample.Frees(), world.grown(a, b, farNumbers(&m, 4)))
		var four []ipa.Branch
		for i, kid := range n.Kids {
			at := world.folded(sample.Frees().To(n.L), sample.Frees().To(n.R), number(kid.U))
			gotA, gotB, _, e := tree.Fold(statementOf(&m, sample.Frees(), at), n.Kids[i].Node)
			errno(t, "Fold of a kid", e, api.OK)
			four = append(four, ipa.Branch{U: kid.U, A: gotA, B: gotB})
		}
		joinA, joinB, _, e := ipa.Join(s, n.L, n.R, four)
		errno(t, "Join", e, api.OK)
		gotA, gotB, _, e := tree.Fold(s, n)
		errno(t, "Fold", e, api.OK)
		if !slices.Equal(joinA, gotA) || !slices.Equal(joinB, gotB) {
			t.Errorf("Join tells %v and %v, Fold %v and %v", joinA, joinB, gotA, gotB)
		}
	}
}
