package witness_test

// P2203: what is known by a tree.

import (
	"math/big"
	"slices"
	"testing"

	"veil/api"
	"veil/circuit"
	"veil/gens"
	"veil/group"
	"veil/msm"
	"veil/sample"
	"veil/scalar"
	"veil/witness"
)

// knownOf: what Extract answers must be known: an assignment that holds, with blindings that open the commitments, or a relation. Was it a relation?
func knownOf(t *testing.T, what string, w world, v []numbers, o witness.Outcome) bool {
	t.Helper()
	if len(o.Relation) != 0 {
		relation := o.Relation
		o.Relation = nil
		if !empty(o) || len(relation) != 3+2*w.size() || !isLeast(relation) {
			t.Fatalf("%s: %v beside a relation of %d scalars", what, o, len(relation))
		}
		if ks := numbersOf(relation); ks.Same(numbers{}) || !summed(ks, w.all()).Same(numbers{}) {
			t.Fatalf("%s: %v is no relation", what, relation)
		}
		return true
	}
	a := o.Assignment
	if len(a.L) != w.gates || len(a.R) != w.gates || len(a.O) != w.gates || len(a.V) != w.values || len(o.Blinds) != w.values {
		t.Fatalf("%s: lists of other lengths: %v", what, o)
	}
	if !isLeast(slices.Concat(a.L, a.R, a.O, a.V, o.Blinds)) {
		t.Fatalf("%s: not by least limbs: %v", what, o)
	}
	if !w.holds(wired{numbersOf(a.L), numbersOf(a.R), numbersOf(a.O), numbersOf(a.V)}) {
		t.Fatalf("%s: an assignment that does not hold: %v", what, a)
	}
	for j := range v {
		if !w.commitment(number(a.V[j]), number(o.Blinds[j])).Same(v[j]) {
			t.Fatalf("%s: commitment %d is not opened", what, j)
		}
	}
	return false
}

// extract: of a tree that stands for numbers, by any limbs and looks. Is it accepted, as the document's words say, and does a relation come out?
func extract[P msm.Group[P]](t *testing.T, what string, m *sample.Maker, kind sample.Kind[P], w world, v []numbers, x aTree) (ok, relation bool) {
	t.Helper()
	what += " over " + kind.Name
	g, s, commitments, given := setOf(m, kind, w), systemOf(m, w.system), elements(m, kind, v), treeOf(m, kind, x)
	ok = w.accepts(v, x)
	want := api.OK
	if !ok {
		want = api.ErrLeaf
	}
	errno(t, what+": Check", witness.Check(g, s, commitments, given), want)
	o, e := witness.Extract(g, s, commitments, given)
	errno(t, what+": Extract", e, want)
	if !ok {
		if !empty(o) {
			t.Errorf("%s: %v beside an error", what, o)
		}
		return false, false
	}
	return true, knownOf(t, what, w, v, o)
}

// tells: over generators without a relation just this assignment and these blindings must come out.
func tells(t *testing.T, what string, o witness.Outcome, e api.Errno, k secret) {
	t.Helper()
	errno(t, what, e, api.OK)
	if len(o.Relation) != 0 {
		t.Fatalf("%s: a relation: %v", what, o.Relation)
	}
	told(t, what+": L", o.Assignment.L, k.l)
	told(t, what+": R", o.Assignment.R, k.r)
	told(t, what+": O", o.Assignment.O, k.o)
	told(t, what+": V", o.Assignment.V, k.v)
	told(t, what+": Blinds", o.Blinds, k.blinds)
}

// grownTells: a tree that is grown over these generators tells its prover's assignment and blindings.
func grownTells[P msm.Group[P]](t *testing.T, m *sample.Maker, g gens.Set[P], s system, k secret) {
	t.Helper()
	given := systemOf(m, s)
	v, x, e := witness.Grow(g, given, assignmentOf(m, k.wired), limbs(m, k.blinds), tapeOf(m, k), challengesOf(m, anyAsked(m, s)))
	errno(t, "Grow", e, api.OK)
	o, e := witness.Extract(g, given, v, x)
	tells(t, "Extract", o, e, k)
}

func basisTells(t *testing.T, m *sample.Maker, s system, k secret) {
	t.Helper()
	g, _ := gens.Basis(s.size() + int(m.Next()%2))
	grownTells(t, m, g, s, k)
}

func TestP2203Basis(t *testing.T) {
	t.Parallel()
	m := sample.Maker(2203)
	for range 3 {
		for _, h := range append(tiny(), small()...) {
			s, k := anyCase(&m, h)
			basisTells(t, &m, s, k)
		}
	}
	for _, h := range append(append(tiny(), small()...), middle()...) {
		s, k := farCase(&m, h)
		basisTells(t, &m, s, k)
	}
}

// Over Basis, too, with many values, gates and requirements; places without a gate among them.
func TestP2203GreatBasis(t *testing.T) {
	t.Parallel()
	for _, h := range []shape{{4, 4, 3}, {3, 5, 0}, {5, 8, 0}, {0, 9, 0}} {
		t.Run("", func(t *testing.T) {
			t.Parallel()
			m := sample.Maker(22030)
			s, k := farCase(&m, h)
			basisTells(t, &m, s, k)
		})
	}
}

// The greatest systems that have trees: their ways are the prover's, and the assignment comes out.
func TestP2203Greatest(t *testing.T) {
	t.Parallel()
	for _, h := range []shape{{1, 1, 4095}, {2, 2, 679}, {3, 4, 81}, {8, 8, 1}, {0, 16, 0}} {
		t.Run("", func(t *testing.T) {
			t.Parallel()
			m := sample.Maker(22031)
			s, k := anyCase(&m, h)
			g, _ := gens.Lines([]byte("greatest"), s.size())
			given, v, x := grownWays(t, &m, g, s, k)
			if many := given.Clone(); s.size() > 1 {
				many.Require(nil)
				errno(t, "one requirement more", witness.Check(g, many, v, x), api.ErrArity)
			}
			o, e := witness.Extract(g, given, v, x)
			tells(t, "Extract", o, e, k)
		})
	}
}

// Over ristretto255, where nobody knows a relation, the prover's assignment comes out, too.
func TestP2203Points(t *testing.T) {
	t.Parallel()
	for _, h := range append(tiny(), shape{0, 2, 0}, shape{1, 2, 1}, shape{2, 2, 1}, shape{1, 3, 0}) {
		t.Run("", func(t *testing.T) {
			t.Parallel()
			m := sample.Maker(22032)
			s, k := anyCase(&m, h)
			g, _ := gens.Standard(s.size())
			grownTells(t, &m, g, s, k)
		})
	}
}

// toldOf: of a tree over Basis that stands for numbers.
func toldOf(t *testing.T, what string, m *sample.Maker, w world, v []numbers, x aTree, k secret) {
	t.Helper()
	kind := sample.Frees()
	g, s, commitments, given := setOf(m, kind, w), systemOf(m, w.system), elements(m, kind, v), treeOf(m, kind, x)
	errno(t, what+": Check", witness.Check(g, s, commitments, given), api.OK)
	o, e := witness.Extract(g, s, commitments, given)
	tells(t, what, o, e, k)
}

// Each part of a tree may be of other taus: behind each y and z T1 to T6 are said anew.
func TestP2203OtherTaus(t *testing.T) {
	t.Parallel()
	m := sample.Maker(22033)
	for _, h := range append(append(tiny(), small()...), middle()[:3]...) {
		s, k := farCase(&m, h)
		w := basis(s)
		r := w.honest(k)
		r.taus = func() (ts taus) {
			for e := range ts {
				ts[e] = m.Number()
			}
			return ts
		}
		toldOf(t, "Extract with other taus", &m, w, w.commitments(k), w.grown(r, anyAsked(&m, s)), k)
	}
}

// Places without a gate may hold anything that multiplies, and AO anything of H: the assignment is of the gates alone.
func TestP2203BesideTheGates(t *testing.T) {
	t.Parallel()
	m := sample.Maker(22034)
	for _, h := range []shape{{0, 0, 0}, {0, 0, 1}, {1, 1, 1}, {0, 2, 1}, {1, 3, 1}, {2, 3, 0}, {0, 5, 0}} {
		s, k := farCase(&m, h)
		w := basis(s)
		r := w.honest(k)
		for i := range r.bO {
			r.bO[i] = far(&m)
		}
		for i := s.gates; i < s.size(); i++ {
			r.aL[i], r.aR[i] = far(&m), far(&m)
			r.aO[i] = times(r.aL[i], r.aR[i])
		}
		toldOf(t, "Extract", &m, w, w.commitments(k), w.grown(r, anyAsked(&m, s)), k)
	}
}

// The same by trees of Grow, whose parts are put together, each of another tape.
func TestP2203PartsOfManyTrees(t *testing.T) {
	t.Parallel()
	m := sample.Maker(22035)
	for _, h := range []shape{{0, 0, 1}, {1, 1, 1}, {1, 2, 1}} {
		s, k := farCase(&m, h)
		g, _ := gens.Basis(s.size())
		given, a, blinds, tape, c := systemOf(&m, s), assignmentOf(&m, k.wired), limbs(&m, k.blinds), tapeOf(&m, k), challengesOf(&m, anyAsked(&m, s))
		v, whole, e := witness.Grow(g, given, a, blinds, tape, c)
		errno(t, "Grow", e, api.OK)
		for i := range whole.Ys {
			for j := range whole.Ys[i].Zs {
				for _, tau := range []*scalar.Scalar{&tape.Tau1, &tape.Tau3, &tape.Tau4, &tape.Tau5, &tape.Tau6} {
					*tau = m.Limbs(far(&m))
				}
				_, other, _ := witness.Grow(g, given, a, blinds, tape, c)
				whole.Ys[i].Zs[j] = other.Ys[i].Zs[j]
			}
		}
		o, e := witness.Extract(g, given, v, whole)
		tells(t, "Extract of parts", o, e, k)

		// But AI, AO and S are said once: a part of another alpha, beta or rho is of another tree.
		for _, one := range []*scalar.Scalar{&tape.Alpha, &tape.Beta, &tape.Rho} {
			was, part := *one, whole.Ys[s.size()-1].Zs[0]
			*one = m.Limbs(far(&m))
			_, other, _ := witness.Grow(g, given, a, blinds, tape, c)
			whole.Ys[s.size()-1].Zs[0] = other.Ys[s.size()-1].Zs[0]
			checks(t, "a part of another beginning", g, given, v, whole, api.ErrLeaf)
			*one, whole.Ys[s.size()-1].Zs[0] = was, part
		}
	}
}

// Each list may have challenges of its own: grown by others at each place.
func TestP2203ChallengesOfEachPlace(t *testing.T) {
	t.Parallel()
	m := sample.Maker(22036)
	for _, h := range []shape{{0, 0, 1}, {1, 1, 1}, {1, 2, 1}} {
		s, k := farCase(&m, h)
		g, _ := gens.Basis(s.size())
		c := anyAsked(&m, s)
		given, a, blinds, tape := systemOf(&m, s), assignmentOf(&m, k.wired), limbs(&m, k.blinds), tapeOf(&m, k)
		grown := func(c asked) ([]msm.Free, witness.Tree[msm.Free]) {
			v, x, e := witness.Grow(g, given, a, blinds, tape, challengesOf(&m, c))
			errno(t, "Grow", e, api.OK)
			return v, x
		}
		v, whole := grown(c)
		for i := range whole.Ys {
			own := anyAsked(&m, s)
			own.ys = c.ys
			_, other := grown(own)
			whole.Ys[i].Zs = other.Ys[i].Zs
			for j := range whole.Ys[i].Zs {
				own.xs, own.ws, own.us = unlike(&m, 6), unlike(&m, 2), unlikeSquares(&m, 4)
				_, other = grown(own)
				whole.Ys[i].Zs[j].Xs = other.Ys[i].Zs[j].Xs
				for l := range whole.Ys[i].Zs[j].Xs {
					own.ws, own.us = unlike(&m, 2), unlikeSquares(&m, 4)
					_, other = grown(own)
					whole.Ys[i].Zs[j].Xs[l].Ws = other.Ys[i].Zs[j].Xs[l].Ws
				}
			}
		}
		o, e := witness.Extract(g, given, v, whole)
		tells(t, "Extract of a tree of many challenges", o, e, k)
	}
}

// Values that enter so that at some z the requirements name none of them, or such sums that do not tell them apart: all z together do.
func TestP2203ValuesHideAtSomeZ(t *testing.T) {
	t.Parallel()
	m := sample.Maker(22037)
	value := func(j int) circuit.Wire { return circuit.Wire{Kind: api.WireValue, I: j} }
	for range 3 {
		// One value: wV = z + k z z is 0 at z = -1 / k.
		h := shape{1, 1, 1}
		a := wiredOf(h, func() *big.Int { return far(&m) })
		s, k := h.begun(), far(&m)
		s.requires = append(s.requires, closed(a, []term{{value(0), negative(k)}}, new(big.Int)))
		c := farAsked(&m, s)
		for place := range c.zs {
			own := c
			own.zs = slices.Clone(c.zs)
			own.zs[place] = negative(inverse(k))
			if s.flat(own.zs[place]).v[0].Sign() != 0 {
				t.Fatal("the value does not hide")
			}
			w, secret := basis(s), secretOf(h, a, func() *big.Int { return far(&m) })
			toldOf(t, "a value that hides", &m, w, w.commitments(secret), w.grown(w.honest(secret), own), secret)
		}

		// Two values: wV of the first two z are multiples of one another.
		h = shape{2, 2, 1}
		a = wiredOf(h, func() *big.Int { return far(&m) })
		s = h.begun()
		c = asked{farNumbers(&m, 2), farNumbers(&m, 4), farNumbers(&m, 6), farNumbers(&m, 2), farNumbers(&m, 4)}
		// wV = (z + f z^3, z z): z0 (1 + f z0 z0) z1 z1 = z1 (1 + f z1 z1) z0 z0, so f z0 z1 (z0 - z1) = z0 - z1: f = 1 / (z0 z1).
		f := inverse(times(c.zs[0], c.zs[1]))
		s.requires = append(s.requires, closed(a, []term{{value(0), negative(f)}}, new(big.Int)))
		one, two := s.flat(c.zs[0]).v, s.flat(c.zs[1]).v
		if minus(times(one[0], two[1]), times(one[1], two[0])).Sign() != 0 {
			t.Fatal("the values are told apart")
		}
		w, secret := basis(s), secretOf(h, a, func() *big.Int { return far(&m) })
		toldOf(t, "values that hide", &m, w, w.commitments(secret), w.grown(w.honest(secret), c), secret)
	}
}

// Generators from N on are not looked at.
func TestP2203GeneratorsBehind(t *testing.T) {
	m := sample.Maker(22038)
	s, k := farCase(&m, shape{1, 2, 1})
	given := systemOf(&m, s)
	g, _ := gens.Basis(2)
	v, x, _ := witness.Grow(g, given, assignmentOf(&m, k.wired), limbs(&m, k.blinds), tapeOf(&m, k), easy(given))
	g.G, g.H = append(slices.Clone(g.G), g.B, g.Q), append(slices.Clone(g.H), g.G[0])
	o, e := witness.Extract(g, given, v, x)
	tells(t, "Extract with more generators", o, e, k)

	// A relation of generators behind is none of the tree's.
	lines, _ := gens.Lines([]byte("behind"), 5)
	points, y, _ := witness.Grow(lines, given, assignmentOf(&m, k.wired), limbs(&m, k.blinds), tapeOf(&m, k), easy(given))
	o, e = witness.Extract(lines, given, points, y)
	tells(t, "Extract over Line", o, e, k)
}

// Where both can be had a grown tree tells an assignment, or a relation: over any generators, neutral and same ones among them.
func TestP2203AnyGenerators(t *testing.T) {
	t.Parallel()
	m := sample.Maker(22039)
	for range 3 {
		for _, h := range tiny() {
			s, k := anyCase(&m, h)
			grownOver(t, &m, sample.Lines(), anyWorld(&m, sample.Lines(), s), k)
			grownOver(t, &m, sample.Frees(), anyWorld(&m, sample.Frees(), s), k)
			grownOver(t, &m, sample.Boxes(), anyWorld(&m, sample.Boxes(), s), k)
			grownOver(t, &m, sample.Lines(), world{system: s, g: make([]numbers, s.size()), h: make([]numbers, s.size())}, k)
		}
	}
	for _, h := range append(small(), middle()[:2]...) {
		s, k := anyCase(&m, h)
		grownOver(t, &m, sample.Lines(), anyWorld(&m, sample.Lines(), s), k)
		grownOver(t, &m, sample.Frees(), anyWorld(&m, sample.Frees(), s), k)
	}
}

func grownOver[P msm.Group[P]](t *testing.T, m *sample.Maker, kind sample.Kind[P], w world, k secret) {
	t.Helper()
	x := w.grown(w.honest(k), anyAsked(m, w.system))
	if ok, _ := extract(t, "a grown tree", m, kind, w, w.commitments(k), x); !ok {
		t.Fatal("a grown tree is not accepted")
	}
}

// Commitments, generators or a whole tree of zeros.
func TestP2203Zeros(t *testing.T) {
	m := sample.Maker(220390)
	zero := func() *big.Int { return new(big.Int) }
	for _, h := range append(tiny(), small()...) {
		k := secretOf(h, wiredOf(h, zero), zero)
		s := farSystem(&m, h, k.wired)
		w := basis(s)
		x := turnTree(w.grown(w.honest(k), anyAsked(&m, s)), func(numbers) group.Point { return group.Point{} }, func(k scalar.Scalar) scalar.Scalar { return k })
		var g gens.Set[group.Point]
		g.G, g.H = make([]group.Point, s.size()), make([]group.Point, s.size())
		o, e := witness.Extract(g, systemOf(&m, s), make([]group.Point, s.values), x)
		errno(t, "Extract over neutral elements", e, api.OK)
		neutral := world{system: s, g: make([]numbers, s.size()), h: make([]numbers, s.size())}
		knownOf(t, "Extract over neutral elements", neutral, make([]numbers, s.values), o)
	}
}
