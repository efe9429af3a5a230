package ipa_test

// P1206: what is known by four branches.

import (
	"math/big"
	"slices"
	"testing"

	"veil/api"
	"veil/gens"
	"veil/ipa"
	"veil/msm"
	"veil/sample"
	"veil/scalar"
)

// branch: what a branch's scalars stand for.
type branch struct {
	u    *big.Int
	a, b numbers
}

// node: a statement, a round's elements, and four branches.
type node struct {
	stated
	l, r numbers
	four []branch
}

// accepted: is each branch's image the folded statement's p?
func (n node) accepted() bool {
	for _, b := range n.four {
		s := n.folded(n.l, n.r, b.u)
		if !image(s.q, s.g, s.h, b.a, b.b).Same(s.p) {
			return false
		}
	}
	return true
}

// proverNode: the branches that a prover answers who knows a and b.
func proverNode(m *sample.Maker, s stated, a, b numbers) node {
	n := node{stated: s}
	n.p = image(s.q, s.g, s.h, a, b)
	n.l, n.r = s.sent(a, b)
	for _, u := range unlike(m, 4) {
		nextA, nextB := next(a, b, u)
		n.four = append(n.four, branch{u, nextA, nextB})
	}
	return n
}

func branches(m *sample.Maker, list []branch) []ipa.Branch {
	var four []ipa.Branch
	for _, b := range list {
		four = append(four, ipa.Branch{U: m.Limbs(b.u), A: limbs(m, b.a), B: limbs(m, b.b)})
	}
	return four
}

// isLeast: all by their least limbs?
func isLeast(list []scalar.Scalar) bool {
	return !slices.ContainsFunc(list, func(k scalar.Scalar) bool { return k != k.Least() })
}

// numbersOf: of scalars.
func numbersOf(list []scalar.Scalar) numbers {
	var ns numbers
	for _, k := range list {
		ns = append(ns, sample.NumberOf(k))
	}
	return ns
}

// joined: what Join answers must be what is known of the node; a relation?
func joined[P msm.Group[P]](t *testing.T, what string, m *sample.Maker, kind sample.Kind[P], n node) bool {
	t.Helper()
	a, b, relation, e := ipa.Join(statement(m, kind, n.stated), kind.Of(m, n.l), kind.Of(m, n.r), branches(m, n.four))
	what += " over " + kind.Name
	if !n.accepted() {
		errno(t, what, e, api.ErrNode)
		if len(a)+len(b)+len(relation) != 0 {
			t.Errorf("%s: %v, %v, %v beside an error", what, a, b, relation)
		}
		return false
	}
	errno(t, what, e, api.OK)
	if !isLeast(a) || !isLeast(b) || !isLeast(relation) {
		t.Errorf("%s: limbs that are not the least", what)
	}
	size := len(n.g)
	if len(relation) == 0 {
		if len(a) != size || len(b) != size || !image(n.q, n.g, n.h, numbersOf(a), numbersOf(b)).Same(n.p) {
			t.Errorf("%s: %v and %v are not known", what, a, b)
		}
		return false
	}
	if len(a)+len(b) != 0 || len(relation) != 1+2*size {
		t.Fatalf("%s: %v, %v, %v", what, a, b, relation)
	}
	ks := numbersOf(relation)
	if !summed(ks, slices.Concat([]numbers{n.q}, n.g, n.h)).Same(numbers{}) || ks.Same(numbers{}) {
		t.Errorf("%s: %v is no relation", what, relation)
	}
	return true
}

func provedOver[P msm.Group[P]](t *testing.T, m *sample.Maker, kind sample.Kind[P], sizes []int) {
	t.Helper()
	one := big.NewInt(1)
	for _, size := range sizes {
		n := proverNode(m, anyStated(m, kind, size), someNumbers(m, size), someNumbers(m, size))
		if !n.accepted() {
			t.Fatal("a prover's branches are not accepted")
		}
		joined(t, "a prover's branches", m, kind, n)

		wrong := n
		wrong.p = n.p.Plus(numbers{one})
		joined(t, "another p", m, kind, wrong)
		wrong = n
		wrong.l = n.l.Plus(numbers{one})
		joined(t, "another l", m, kind, wrong)
		wrong = n
		wrong.r = n.r.Plus(numbers{one})
		joined(t, "another r", m, kind, wrong)
		for i := range n.four {
			place := int(m.Next() % uint64(size/2))
			wrong = n
			wrong.four = slices.Clone(n.four)
			wrong.four[i].a = numbers(slices.Clone(n.four[i].a))
			wrong.four[i].a[place] = plus(wrong.four[i].a[place], one)
			joined(t, "another a", m, kind, wrong)
			wrong.four = slices.Clone(n.four)
			wrong.four[i].b = numbers(slices.Clone(n.four[i].b))
			wrong.four[i].b[place] = plus(wrong.four[i].b[place], one)
			joined(t, "another b", m, kind, wrong)
			wrong.four = slices.Clone(n.four)
			wrong.four[i].u = unlike(m, 9)[8]
			if _, _, _, e := ipa.Join(statement(m, kind, wrong.stated), kind.Of(m, n.l), kind.Of(m, n.r), branches(m, wrong.four)); e != api.ErrSame {
				joined(t, "another u", m, kind, wrong)
			}
		}
	}
}

func TestP1206BranchesOfAProver(t *testing.T) {
	m := sample.Maker(1206)
	for range 3 {
		provedOver(t, &m, sample.Lines(), []int{2, 4, 8})
		provedOver(t, &m, sample.Frees(), []int{2, 4, 8})
		provedOver(t, &m, sample.Boxes(), []int{2, 4, 8})
	}
	provedOver(t, &m, sample.Lines(), []int{16, 256})
	provedOver(t, &m, sample.Frees(), []int{16, 32})
	provedOver(t, &m, sample.Points(), []int{2, 4})
}

// basis: a statement's generators without a relation.
func basis(size int) stated {
	at := func(place int) numbers {
		ns := make(numbers, place+1)
		for i := range ns {
			ns[i] = new(big.Int)
		}
		ns[place] = big.NewInt(1)
		return ns
	}
	s := stated{q: at(0)}
	for i := range size {
		s.g, s.h = append(s.g, at(1+i)), append(s.h, at(1+size+i))
	}
	return s
}

// Where there is no relation a and b come out, and there are no others.
func TestP1206WithoutARelation(t *testing.T) {
	m := sample.Maker(12060)
	kind := sample.Frees()
	for _, size := range append(sizes(64)[1:], 2, 2, 4, 4) {
		a, b := someNumbers(&m, size), someNumbers(&m, size)
		n := proverNode(&m, basis(size), a, b)
		gotA, gotB, relation, e := ipa.Join(statement(&m, kind, n.stated), kind.Of(&m, n.l), kind.Of(&m, n.r), branches(&m, n.four))
		noList(t, "the relation", relation, e, api.OK)
		told(t, "a", gotA, a)
		told(t, "b", gotB, b)
	}
	set, _ := gens.Basis(8)
	s := ipa.Statement[msm.Free]{Q: set.Q, G: set.G, H: set.H}
	a, b := limbs(&m, someNumbers(&m, 8)), limbs(&m, someNumbers(&m, 8))
	s.P, _ = ipa.Image(s.Q, s.G, s.H, a, b)
	l, _ := ipa.Image(s.Q, s.G[4:], s.H[:4], a[:4], b[4:])
	r, _ := ipa.Image(s.Q, s.G[:4], s.H[4:], a[4:], b[:4])
	var four []branch
	for _, u := range unlike(&m, 4) {
		nextA, nextB := next(numbersOf(a), numbersOf(b), u)
		four = append(four, branch{u, nextA, nextB})
	}
	gotA, gotB, relation, e := ipa.Join(s, l, r, branches(&m, four))
	noList(t, "the relation over gens.Basis", relation, e, api.OK)
	told(t, "a over gens.Basis", gotA, numbersOf(a))
	told(t, "b over gens.Basis", gotB, numbersOf(b))
}

// solved: any scalars but for one of b, which makes the branch accepted, over a group of one number; false, if none does.
func (n node) solved(m *sample.Maker, u *big.Int) (branch, bool) {
	s := n.folded(n.l, n.r, u)
	size := len(s.g)
	place := int(m.Next() % uint64(size))
	b := branch{u, someNumbers(m, size), someNumbers(m, size)}
	b.b[place] = new(big.Int)
	missing := plus(s.p.At(0), negative(image(s.q, s.g, s.h, b.a, b.b).At(0)))
	factor := plus(s.h[place].At(0), times(b.a[place], s.q.At(0)))
	if factor.Sign() == 0 {
		return b, missing.Sign() == 0
	}
	b.b[place] = times(missing, inverse(factor))
	return b, true
}

// solvedNode: branches of anything, that are accepted all the same.
func solvedNode[P msm.Group[P]](m *sample.Maker, kind sample.Kind[P], size int) node {
	return solvedNodeOf(m, kind, func() stated { return anyStated(m, kind, size) })
}

// solvedNodeOf: the same, of some statement.
func solvedNodeOf[P msm.Group[P]](m *sample.Maker, kind sample.Kind[P], some func() stated) node {
	for {
		n := node{stated: some(), l: kind.Any(m), r: kind.Any(m)}
		for _, u := range unlike(m, 4) {
			if b, ok := n.solved(m, u); ok {
				n.four = append(n.four, b)
			}
		}
		if len(n.four) == 4 {
			return n
		}
	}
}

// Whoever takes logarithms answers any challenge without knowing a and b: a relation comes out, or a and b by chance.
func TestP1206WithARelation(t *testing.T) {
	m := sample.Maker(12061)
	relations := 0
	for range 60 {
		for _, size := range sizes(8)[1:] {
			if joined(t, "solved branches", &m, sample.Lines(), solvedNode(&m, sample.Lines(), size)) {
				relations++
			}
			joined(t, "solved branches", &m, sample.Boxes(), solvedNode(&m, sample.Boxes(), size))
		}
	}
	joined(t, "solved branches", &m, sample.Lines(), solvedNode(&m, sample.Lines(), 1024))
	joined(t, "solved branches", &m, sample.Points(), solvedNode(&m, sample.Points(), 2))
	joined(t, "solved branches", &m, sample.Points(), solvedNode(&m, sample.Points(), 4))
	if relations < 100 {
		t.Errorf("%d relations alone: the branches tell nothing", relations)
	}
}

// All generators but some of them are neutral: the branches may agree in part alone, and what is left must be told all the same.
func TestP1206NeutralGenerators(t *testing.T) {
	m := sample.Maker(12065)
	kind := sample.Lines()
	for range 40 {
		for which := 1; which < 8; which++ {
			for _, size := range []int{2, 4} {
				joined(t, "neutral generators", &m, kind, solvedNodeOf(&m, kind, func() stated {
					s, n := anyStated(&m, kind, size), stated{q: numbers{}, g: make([]numbers, size), h: make([]numbers, size)}
					n.p = s.p
					if which&1 == 1 {
						n.q = s.q
					}
					if which&2 == 2 {
						n.g = s.g
					}
					if which&4 == 4 {
						n.h = s.h
					}
					return n
				}))
			}
		}
	}
}

// One branch of four, or some, go their own way, along a relation: the same element stands twice in both halves of G, and b is the same at both.
func TestP1206BranchesAstray(t *testing.T) {
	m := sample.Maker(12062)
	for which := range 16 {
		for _, size := range []int{4, 8} {
			s, a, b := basis(size), someNumbers(&m, size), someNumbers(&m, size)
			for _, place := range []int{0, size / 2} {
				s.g[place+1], b[place+1] = s.g[place], b[place]
			}
			n := proverNode(&m, s, a, b)
			for i := range n.four {
				if which>>i&1 == 1 {
					far := m.Number()
					a := n.four[i].a
					a[0], a[1] = plus(a[0], far), plus(a[1], negative(far))
				}
			}
			if !n.accepted() {
				t.Fatal("branches astray are not accepted")
			}
			joined(t, "branches astray", &m, sample.Frees(), n)
		}
	}
}

// wrongNode: a node over Line that is accepted, and whose four are then changed.
func wrongNode(t *testing.T, what string, want api.Errno, change func(s *ipa.Statement[msm.Line], four []ipa.Branch) []ipa.Branch) {
	t.Helper()
	m := sample.Maker(12063)
	kind := sample.Lines()
	n := proverNode(&m, anyStated(&m, kind, 4), someNumbers(&m, 4), someNumbers(&m, 4))
	s := statement(&m, kind, n.stated)
	four := change(&s, branches(&m, n.four))
	a, b, relation, e := ipa.Join(s, kind.Of(&m, n.l), kind.Of(&m, n.r), four)
	errno(t, what, e, want)
	if want != api.OK && len(a)+len(b)+len(relation) != 0 {
		t.Errorf("%s: %v, %v, %v beside an error", what, a, b, relation)
	}
}

type state = ipa.Statement[msm.Line]

func TestP1206Lengths(t *testing.T) {
	wrongNode(t, "as it is", api.OK, func(s *state, four []ipa.Branch) []ipa.Branch { return four })
	// Whatever else is wrong, lengths come first.
	spoils := []func(four []ipa.Branch){
		func(four []ipa.Branch) {},
		func(four []ipa.Branch) { four[0].U = scalar.Scalar{} },
		func(four []ipa.Branch) { four[0].U = four[1].U },
		func(four []ipa.Branch) { four[0].A[0] = four[0].A[0].Add(scalar.Int(1)) },
	}
	for _, spoil := range spoils {
		wrong := func(what string, change func(s *state, four []ipa.Branch) []ipa.Branch) {
			t.Helper()
			wrongNode(t, what, api.ErrLength, func(s *state, four []ipa.Branch) []ipa.Branch {
				spoil(four)
				return change(s, four)
			})
		}
		for count := range 4 {
			wrong("too few branches", func(s *state, four []ipa.Branch) []ipa.Branch { return four[:count] })
		}
		wrong("five branches", func(s *state, four []ipa.Branch) []ipa.Branch {
			return append(four, ipa.Branch{U: scalar.Int(99), A: four[0].A, B: four[0].B})
		})
		for i := range 4 {
			wrong("a short A", func(s *state, four []ipa.Branch) []ipa.Branch { four[i].A = four[i].A[:1]; return four })
			wrong("a short B", func(s *state, four []ipa.Branch) []ipa.Branch { four[i].B = four[i].B[:1]; return four })
			wrong("a long A", func(s *state, four []ipa.Branch) []ipa.Branch { four[i].A = some(3); return four })
			wrong("a long B", func(s *state, four []ipa.Branch) []ipa.Branch { four[i].B = some(4); return four })
			wrong("both short", func(s *state, four []ipa.Branch) []ipa.Branch { four[i].A, four[i].B = nil, nil; return four })
		}
		wrong("a short G", func(s *state, four []ipa.Branch) []ipa.Branch { s.G = s.G[:3]; return four })
		wrong("a short H", func(s *state, four []ipa.Branch) []ipa.Branch { s.H = s.H[:3]; return four })
		wrong("a long G", func(s *state, four []ipa.Branch) []ipa.Branch { s.G = append(s.G, line(1)); return four })
		wrong("a long H", func(s *state, four []ipa.Branch) []ipa.Branch { s.H = append(s.H, line(1)); return four })
	}
}

// Lengths that are no even size, with branches of half of them.
func TestP1206NoEvenSize(t *testing.T) {
	for _, n := range append(noSizes(), 1) {
		for _, half := range []int{n / 2, (n + 1) / 2, 0} {
			var four []ipa.Branch
			for u := range 4 {
				four = append(four, ipa.Branch{U: scalar.Int(uint64(u + 1)), A: make([]scalar.Scalar, half), B: make([]scalar.Scalar, half)})
			}
			s := state{G: make([]msm.Line, n), H: make([]msm.Line, n)}
			_, _, _, e := ipa.Join(s, line(0), line(0), four)
			errno(t, "Join of no even size", e, api.ErrLength)
		}
	}
	for _, n := range sizes(1024)[1:] {
		var four []ipa.Branch
		for u := range 4 {
			four = append(four, ipa.Branch{U: scalar.Int(uint64(u + 1)), A: make([]scalar.Scalar, n/2), B: make([]scalar.Scalar, n/2)})
		}
		s := state{G: make([]msm.Line, n), H: make([]msm.Line, n)}
		a, b, relation, e := ipa.Join(s, line(0), line(0), four)
		errno(t, "Join of zeros", e, api.OK)
		if len(a) != n || len(b) != n || len(relation) != 0 {
			t.Errorf("Join of zeros: %v, %v, %v", a, b, relation)
		}
	}
}

func TestP1206Challenges(t *testing.T) {
	m := sample.Maker(12064)
	for i := range 4 {
		for _, zero := range zeros() {
			wrongNode(t, "a 0", api.ErrZero, func(s *state, four []ipa.Branch) []ipa.Branch {
				four[(i+1)%4].U = four[(i+2)%4].U // of the same square, too, and not accepted
				four[i].U = zero
				return four
			})
		}
		for j := range 4 {
			if i == j {
				continue
			}
			wrongNode(t, "the same branch twice", api.ErrSame, func(s *state, four []ipa.Branch) []ipa.Branch {
				four[i] = ipa.Branch{U: m.Limbs(sample.NumberOf(four[j].U)), A: four[j].A, B: four[j].B}
				return four
			})
			wrongNode(t, "a challenge and its negative", api.ErrSame, func(s *state, four []ipa.Branch) []ipa.Branch {
				four[i].U = m.Limbs(negative(sample.NumberOf(four[j].U)))
				return four
			})
		}
		wrongNode(t, "a branch that does not fit", api.ErrNode, func(s *state, four []ipa.Branch) []ipa.Branch {
			four[i].U = four[i].U.Add(scalar.Int(12345))
			return four
		})
	}
}
