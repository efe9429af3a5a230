package tree_test

// P1701 and P1705: how many leaves a tree has, and the tree of a prover.

import (
	"math"
	"math/big"
	"testing"

	"veil/api"
	"veil/gens"
	"veil/msm"
	"veil/ranges"
	"veil/sample"
	"veil/scalar"
	"veil/transcript"
	"veil/tree"
)

// noParams: that are not allowed.
func noParams() []api.Params {
	list := []api.Params{{}, {Bits: 8, Count: 3}, {Bits: math.MinInt, Count: math.MinInt}, {Bits: math.MaxInt, Count: 1}, {Bits: 1, Count: math.MaxInt}, {Bits: 1 << 62, Count: 2}, {Bits: -8, Count: -1}}
	for _, bits := range []int{-64, -1, 0, 3, 5, 6, 7, 9, 12, 24, 48, 63, 65, 96, 128} {
		list = append(list, api.Params{Bits: bits, Count: 1}, api.Params{Bits: bits, Count: 4})
	}
	for _, count := range []int{-1, 0, 3, 5, 6, 7, 9, 12, 15, 17, 24, 32} {
		list = append(list, api.Params{Bits: 1, Count: count}, api.Params{Bits: 8, Count: count})
	}
	return list
}

func TestP1701Leaves(t *testing.T) {
	for _, p := range allParams(api.MaxSize) {
		want := p.Size() * (p.Count + 2) * 3 * 2
		for range p.Rounds() {
			want *= 4
		}
		if got := tree.Leaves(p); got != want {
			t.Errorf("Leaves(%v) = %d, want %d", p, got, want)
		}
	}
	for _, p := range noParams() {
		if got := tree.Leaves(p); got != 0 {
			t.Errorf("Leaves(%v) = %d, want 0", p, got)
		}
	}
}

// leaves: of a node.
func leaves[P any](n tree.Node[P]) int {
	if len(n.Kids) == 0 {
		return 1
	}
	count := 0
	for _, kid := range n.Kids {
		count += leaves(kid.Node)
	}
	return count
}

// A grown tree has as many leaves, at all Params that are not too great; and of these there are just ten.
func TestP1701LeavesOfATree(t *testing.T) {
	t.Parallel()
	grown := 0
	for _, p := range allParams(api.MaxSize) {
		g, _ := gens.Lines([]byte("leaves"), min(p.Size(), 16))
		tape := ranges.Tape{SL: make([]scalar.Scalar, p.Size()), SR: make([]scalar.Scalar, p.Size())}
		_, x, e := tree.Grow(g, p, make([]ranges.Opening, p.Count), tape, small(p))
		if tree.Leaves(p) > api.MaxLeaves {
			errno(t, "Grow of too many leaves", e, api.ErrArity)
			continue
		}
		errno(t, "Grow", e, api.OK)
		grown++
		count := 0
		for _, y := range x.Ys {
			for _, z := range y.Zs {
				for _, x := range z.Xs {
					for _, w := range x.Ws {
						count += leaves(w.Node)
					}
				}
			}
		}
		if count != tree.Leaves(p) {
			t.Errorf("%v: %d leaves, want %d", p, count, tree.Leaves(p))
		}
	}
	if grown != 10 {
		t.Errorf("%d Params have trees, want 10", grown)
	}
}

// grow: the tree of a prover, by any limbs and looks; it must be the one of the document's words, and Check must accept it.
func grow[P msm.Group[P]](t *testing.T, m *sample.Maker, kind sample.Kind[P], w world, k secret, c asked) (gens.Set[P], []P, tree.Tree[P]) {
	t.Helper()
	g := setOf(m, kind, w)
	v, x, e := tree.Grow(g, w.p, openingsOf(m, k), tapeOf(m, k), challengesOf(m, c))
	errno(t, "Grow", e, api.OK)
	are(t, "Grow", kind, v, w.commitments(k)...)
	isTree(t, "Grow", kind, x, w.grown(w.honest(k), c))
	errno(t, "Check", tree.Check(g, w.p, v, x), api.OK)
	return g, v, x
}

func growOver[P msm.Group[P]](t *testing.T, m *sample.Maker, kind sample.Kind[P], list []api.Params) {
	t.Helper()
	for _, p := range list {
		grow(t, m, kind, anyWorld(m, kind, p), anySecret(m, p), anyAsked(m, p))
	}
}

func TestP1705Trees(t *testing.T) {
	t.Parallel()
	m := sample.Maker(1705)
	for range 5 {
		growOver(t, &m, sample.Lines(), allParams(2))
		growOver(t, &m, sample.Frees(), allParams(2))
		growOver(t, &m, sample.Boxes(), allParams(2))
	}
	growOver(t, &m, sample.Lines(), allParams(4))
	growOver(t, &m, sample.Frees(), allParams(4))
	growOver(t, &m, sample.Boxes(), []api.Params{{Bits: 4, Count: 1}})
}

func TestP1705GreatTrees(t *testing.T) {
	t.Parallel()
	m := sample.Maker(17050)
	growOver(t, &m, sample.Lines(), []api.Params{{Bits: 8, Count: 1}, {Bits: 2, Count: 4}})
}

func TestP1705TreesOfPoints(t *testing.T) {
	t.Parallel()
	m := sample.Maker(17051)
	growOver(t, &m, sample.Points(), allParams(2))
}

// Values at both ends of their range, and tapes of zeros.
func TestP1705Edges(t *testing.T) {
	t.Parallel()
	m := sample.Maker(17052)
	for _, p := range allParams(4) {
		top, _ := p.Top()
		for _, v := range []uint64{0, top - 1} {
			k := anySecret(&m, p)
			for j := range k.vs {
				k.vs[j] = v
			}
			grow(t, &m, sample.Lines(), plainWorld(&m, p), k, anyAsked(&m, p))
			zero := new(big.Int)
			k.alpha, k.rho, k.tau1, k.tau2 = zero, zero, zero, zero
			k.sL, k.sR, k.blinds = nothing(p.Size()), nothing(p.Size()), nothing(p.Count)
			grow(t, &m, sample.Frees(), basis(p), k, anyAsked(&m, p))
		}
	}
}

func nothing(count int) numbers {
	list := make(numbers, count)
	for i := range list {
		list[i] = new(big.Int)
	}
	return list
}

// Challenges y and -y are unlike, so are z and -z, x and -x, w and -w; only kids are asked for their squares.
func TestP1705OppositeChallenges(t *testing.T) {
	m := sample.Maker(17053)
	p := api.Params{Bits: 2, Count: 2}
	a := far(&m)
	c := asked{
		ys: numbers{a, negative(a), big.NewInt(1), sample.Mod(big.NewInt(-1))},
		zs: numbers{a, negative(a), big.NewInt(1), sample.Mod(big.NewInt(-1))},
		xs: numbers{negative(a), a, big.NewInt(1)},
		ws: numbers{a, negative(a)},
		us: numbers{a, inverse(a), big.NewInt(1), big.NewInt(2)},
	}
	grow(t, &m, sample.Lines(), plainWorld(&m, p), farSecret(&m, p), c)
	grow(t, &m, sample.Frees(), basis(p), farSecret(&m, p), c)
}

// On each way from the root to a leaf stands what ranges.Prove says to these challenges.
func waysOver[P msm.Group[P]](t *testing.T, m *sample.Maker, g gens.Set[P], p api.Params) {
	t.Helper()
	k, c := anySecret(m, p), challengesOf(m, anyAsked(m, p))
	vs, tape := openingsOf(m, k), tapeOf(m, k)
	v, x, e := tree.Grow(g, p, vs, tape, c)
	errno(t, "Grow", e, api.OK)
	pick := func(count int) int { return int(m.Next() % uint64(count)) }
	for range 12 {
		iy, iz, ix, iw := pick(p.Size()), pick(p.Count+2), pick(3), pick(2)
		z := x.Ys[iy].Zs[iz]
		b := z.Xs[ix]
		n := b.Ws[iw].Node
		said := []scalar.Scalar{c.Ys[iy], c.Zs[iz], c.Xs[ix], c.Ws[iw]}
		var l, r []P
		for range p.Rounds() {
			iu := pick(4)
			said, l, r = append(said, c.Us[iu]), append(l, n.L), append(r, n.R)
			n = n.Kids[iu].Node
		}
		points, proof, e := ranges.Prove(g, p, vs, tape, transcript.Given(append(said, num(9))...))
		errno(t, "Prove", e, api.OK)
		same := proof.A.Same(x.A) && proof.S.Same(x.S) && proof.T1.Same(z.T1) && proof.T2.Same(z.T2) &&
			proof.TauX == b.TauX && proof.Mu == b.Mu && proof.That == b.That && proof.Ea == n.A && proof.Eb == n.B
		for round := range l {
			same = same && proof.L[round].Same(l[round]) && proof.R[round].Same(r[round])
		}
		for j := range v {
			same = same && points[j].Same(v[j])
		}
		if !same {
			t.Fatalf("%v: the tree says something else than the prover", p)
		}
	}
}

func TestP1705WaysOfTheProver(t *testing.T) {
	t.Parallel()
	m := sample.Maker(17054)
	for _, p := range allParams(8) {
		lines, _ := gens.Lines([]byte("ways"), p.Size()+1)
		waysOver(t, &m, lines, p)
	}
	for _, p := range allParams(4) {
		free, _ := gens.Basis(p.Size())
		waysOver(t, &m, free, p)
	}
	for _, p := range allParams(2) {
		points, _ := gens.Standard(p.Size() + 1)
		waysOver(t, &m, points, p)
	}
}

// Challenges are told least, in their order, at every place.
func TestP1705Branches(t *testing.T) {
	m := sample.Maker(17055)
	p := api.Params{Bits: 4, Count: 1}
	g, _ := gens.Basis(4)
	k, c := anySecret(&m, p), anyAsked(&m, p)
	_, x, e := tree.Grow(g, p, openingsOf(&m, k), tapeOf(&m, k), challengesOf(&m, c))
	errno(t, "Grow", e, api.OK)
	is := func(name string, got scalar.Scalar, want *big.Int) {
		if got != sample.Scalar(want) {
			t.Fatalf("%s: %v, want %v", name, got, sample.Scalar(want))
		}
	}
	var node func(n tree.Node[msm.Free], rounds int)
	node = func(n tree.Node[msm.Free], rounds int) {
		if rounds == 0 {
			if len(n.Kids) != 0 || len(n.L.K) != 0 || len(n.R.K) != 0 {
				t.Fatal("a leaf with kids or elements")
			}
			return
		}
		if len(n.Kids) != 4 || n.A != num(0) || n.B != num(0) {
			t.Fatal("a round with scalars, or without four kids")
		}
		for i, kid := range n.Kids {
			is("u", kid.U, c.us[i])
			node(kid.Node, rounds-1)
		}
	}
	for i, y := range x.Ys {
		is("y", y.Y, c.ys[i])
		for i, z := range y.Zs {
			is("z", z.Z, c.zs[i])
			for i, x := range z.Xs {
				is("x", x.X, c.xs[i])
				for i, w := range x.Ws {
					is("w", w.W, c.ws[i])
					node(w.Node, 2)
				}
			}
		}
	}
}
