package witness_test

// P2204: the tree of a prover.

import (
	"math/big"
	"testing"

	"veil/api"
	"veil/arith"
	"veil/circuit"
	"veil/gens"
	"veil/msm"
	"veil/sample"
	"veil/scalar"
	"veil/transcript"
	"veil/tree"
	"veil/witness"
)

// grow: the tree of a prover, by any limbs and looks; it must be the one of the document's words, and Check must accept it.
func grow[P msm.Group[P]](t *testing.T, m *sample.Maker, kind sample.Kind[P], w world, k secret, c asked) (gens.Set[P], *circuit.System, []P, witness.Tree[P]) {
	t.Helper()
	g, s := setOf(m, kind, w), systemOf(m, w.system)
	v, x, e := witness.Grow(g, s, assignmentOf(m, k.wired), limbs(m, k.blinds), tapeOf(m, k), challengesOf(m, c))
	errno(t, "Grow", e, api.OK)
	are(t, "Grow", kind, v, w.commitments(k)...)
	isTree(t, "Grow", kind, x, w.grown(w.honest(k), c))
	errno(t, "Check", witness.Check(g, s, v, x), api.OK)
	return g, s, v, x
}

func growOver[P msm.Group[P]](t *testing.T, m *sample.Maker, kind sample.Kind[P], list []shape) {
	t.Helper()
	for _, h := range list {
		s, k := anyCase(m, h)
		grow(t, m, kind, anyWorld(m, kind, s), k, anyAsked(m, s))
	}
}

func TestP2204Trees(t *testing.T) {
	t.Parallel()
	m := sample.Maker(2204)
	for range 5 {
		growOver(t, &m, sample.Lines(), append(tiny(), small()...))
		growOver(t, &m, sample.Frees(), tiny())
		growOver(t, &m, sample.Boxes(), tiny())
	}
	growOver(t, &m, sample.Frees(), small())
	growOver(t, &m, sample.Boxes(), small())
	growOver(t, &m, sample.Lines(), middle())
	growOver(t, &m, sample.Frees(), middle()[:2])
}

func TestP2204GreatTrees(t *testing.T) {
	t.Parallel()
	m := sample.Maker(22040)
	growOver(t, &m, sample.Lines(), []shape{{0, 5, 0}, {1, 7, 1}, {0, 8, 2}})
}

func TestP2204TreesOfPoints(t *testing.T) {
	t.Parallel()
	m := sample.Maker(22041)
	growOver(t, &m, sample.Points(), append(tiny(), shape{0, 2, 0}, shape{1, 2, 1}))
}

// Wires, values, blindings and tapes of zeros.
func TestP2204Zeros(t *testing.T) {
	t.Parallel()
	m := sample.Maker(22042)
	zero := func() *big.Int { return new(big.Int) }
	for _, h := range append(append(tiny(), small()...), middle()[:2]...) {
		k := secretOf(h, wiredOf(h, zero), zero)
		s := farSystem(&m, h, k.wired)
		grow(t, &m, sample.Lines(), plainWorld(&m, s), k, anyAsked(&m, s))
		grow(t, &m, sample.Frees(), basis(s), k, anyAsked(&m, s))
	}
}

// Challenges y and -y are unlike, so are z and -z, x and -x, w and -w; only kids are asked for their squares.
func TestP2204OppositeChallenges(t *testing.T) {
	m := sample.Maker(22043)
	s, k := farCase(&m, shape{1, 2, 2})
	a, one := far(&m), big.NewInt(1)
	c := asked{
		ys: numbers{a, negative(a)},
		zs: numbers{a, negative(a), one, negative(one)},
		xs: numbers{negative(a), a, one, negative(one), inverse(a), big.NewInt(2)},
		ws: numbers{a, negative(a)},
		us: numbers{a, inverse(a), one, big.NewInt(2)},
	}
	grow(t, &m, sample.Lines(), plainWorld(&m, s), k, c)
	grow(t, &m, sample.Frees(), basis(s), k, c)
}

// waysOver: on each way from the root to a leaf stands what arith.Prove says to these challenges.
func waysOver[P msm.Group[P]](t *testing.T, m *sample.Maker, g gens.Set[P], s *circuit.System, a circuit.Assignment, blinds []scalar.Scalar, tape arith.Tape, c tree.Challenges, v []P, x witness.Tree[P]) {
	t.Helper()
	pick := func(count int) int { return int(m.Next() % uint64(count)) }
	for range 12 {
		iy, iz, ix, iw := pick(len(c.Ys)), pick(len(c.Zs)), pick(6), pick(2)
		z := x.Ys[iy].Zs[iz]
		b := z.Xs[ix]
		n := b.Ws[iw].Node
		said := []scalar.Scalar{c.Ys[iy], c.Zs[iz], c.Xs[ix], c.Ws[iw]}
		var l, r []P
		for 1<<len(l) < arith.Size(s) {
			iu := pick(4)
			said, l, r = append(said, c.Us[iu]), append(l, n.L), append(r, n.R)
			n = n.Kids[iu].Node
		}
		points, proof, e := arith.Prove(g, s, a, blinds, tape, transcript.Given(append(said, num(9))...))
		errno(t, "Prove", e, api.OK)
		same := proof.AI.Same(x.AI) && proof.AO.Same(x.AO) && proof.S.Same(x.S) &&
			proof.T1.Same(z.T1) && proof.T3.Same(z.T3) && proof.T4.Same(z.T4) && proof.T5.Same(z.T5) && proof.T6.Same(z.T6) &&
			proof.TauX == b.TauX && proof.Mu == b.Mu && proof.That == b.That && proof.Ea == n.A && proof.Eb == n.B
		for round := range l {
			same = same && proof.L[round].Same(l[round]) && proof.R[round].Same(r[round])
		}
		for j := range v {
			same = same && points[j].Same(v[j])
		}
		if !same || len(points) != len(v) {
			t.Fatal("the tree says something else than the prover")
		}
	}
}

// grownWays: a tree is grown, and its ways are held against the prover.
func grownWays[P msm.Group[P]](t *testing.T, m *sample.Maker, g gens.Set[P], s system, k secret) (*circuit.System, []P, witness.Tree[P]) {
	t.Helper()
	given, a, blinds, tape, c := systemOf(m, s), assignmentOf(m, k.wired), limbs(m, k.blinds), tapeOf(m, k), challengesOf(m, anyAsked(m, s))
	v, x, e := witness.Grow(g, given, a, blinds, tape, c)
	errno(t, "Grow", e, api.OK)
	waysOver(t, m, g, given, a, blinds, tape, c, v, x)
	return given, v, x
}

func TestP2204WaysOfTheProver(t *testing.T) {
	t.Parallel()
	m := sample.Maker(22044)
	for _, h := range append(append(append(tiny(), small()...), middle()...), shape{2, 6, 3}, shape{0, 13, 0}) {
		s, k := anyCase(&m, h)
		lines, _ := gens.Lines([]byte("ways"), s.size()+1)
		grownWays(t, &m, lines, s, k)
		if s.size() <= 4 {
			free, _ := gens.Basis(s.size())
			grownWays(t, &m, free, s, k)
		}
		if s.size() <= 2 {
			points, _ := gens.Standard(s.size() + 1)
			grownWays(t, &m, points, s, k)
		}
	}
}

// Challenges are told least, in their order, at every place.
func TestP2204Branches(t *testing.T) {
	m := sample.Maker(22045)
	s, k := anyCase(&m, shape{2, 4, 1})
	g, _ := gens.Basis(4)
	c := anyAsked(&m, s)
	_, x, e := witness.Grow(g, systemOf(&m, s), assignmentOf(&m, k.wired), limbs(&m, k.blinds), tapeOf(&m, k), challengesOf(&m, c))
	errno(t, "Grow", e, api.OK)
	is := func(name string, got scalar.Scalar, want *big.Int) {
		if got != sample.Scalar(want) {
			t.Fatalf("%s: %v, want %v", name, got, sample.Scalar(want))
		}
	}
	var node func(n tree.Node[msm.Free], rounds int)
	node = func(n tree.Node[msm.Free], rounds int) {
		if rounds == 0 {
			if len(n.Kids) != 0 || len(n.L.K) != 0 || len(n.R.K) != 0 {
				t.Fatal("a leaf with kids or elements")
			}
			return
		}
		if len(n.Kids) != 4 || n.A != num(0) || n.B != num(0) {
			t.Fatal("a round with scalars, or without four kids")
		}
		for i, kid := range n.Kids {
			is("u", kid.U, c.us[i])
			node(kid.Node, rounds-1)
		}
	}
	for i, y := range x.Ys {
		is("y", y.Y, c.ys[i])
		for i, z := range y.Zs {
			is("z", z.Z, c.zs[i])
			for i, x := range z.Xs {
				is("x", x.X, c.xs[i])
				for i, w := range x.Ws {
					is("w", w.W, c.ws[i])
					node(w.Node, 2)
				}
			}
		}
	}
}
