package tree_test

// P1703: what is known by a tree.

import (
	"math/big"
	"slices"
	"testing"

	"veil/api"
	"veil/gens"
	"veil/group"
	"veil/msm"
	"veil/sample"
	"veil/scalar"
	"veil/tree"
)

// knownOf: what Extract answers must be known: openings in range that open the commitments, or a relation. Was it a relation?
func knownOf(t *testing.T, what string, w world, v []numbers, o tree.Outcome) bool {
	t.Helper()
	if len(o.Relation) != 0 {
		if len(o.Openings) != 0 {
			t.Fatalf("%s: openings beside a relation", what)
		}
		isRelation(t, what, o.Relation, w.all())
		return true
	}
	if len(o.Openings) != w.p.Count {
		t.Fatalf("%s: %d openings, want %d", what, len(o.Openings), w.p.Count)
	}
	top, _ := w.p.Top()
	for j, opening := range o.Openings {
		value := new(big.Int).SetUint64(opening.V)
		if opening.V >= top || opening.Blind != opening.Blind.Least() || !w.commitment(value, number(opening.Blind)).Same(v[j]) {
			t.Fatalf("%s: %v is no opening of commitment %d in its range", what, opening, j)
		}
	}
	return false
}

// extract: of a tree that stands for numbers, by any limbs and looks. Is it accepted, as the document's words say, and does a relation come out?
func extract[P msm.Group[P]](t *testing.T, what string, m *sample.Maker, kind sample.Kind[P], w world, v []numbers, x aTree) (ok, relation bool) {
	t.Helper()
	what += " over " + kind.Name
	g, commitments, given := setOf(m, kind, w), elements(m, kind, v), treeOf(m, kind, x)
	ok = w.accepts(v, x)
	want := api.OK
	if !ok {
		want = api.ErrLeaf
	}
	errno(t, what+": Check", tree.Check(g, w.p, commitments, given), want)
	o, e := tree.Extract(g, w.p, commitments, given)
	errno(t, what+": Extract", e, want)
	if !ok {
		if len(o.Openings)+len(o.Relation) != 0 {
			t.Errorf("%s: %v beside an error", what, o)
		}
		return false, false
	}
	return true, knownOf(t, what, w, v, o)
}

// opens: over generators without a relation just these openings must come out.
func opens(t *testing.T, what string, o tree.Outcome, e api.Errno, k secret) {
	t.Helper()
	errno(t, what, e, api.OK)
	if len(o.Relation) != 0 || len(o.Openings) != len(k.vs) {
		t.Fatalf("%s: %v", what, o)
	}
	for j, opening := range o.Openings {
		if opening.V != k.vs[j] || opening.Blind != sample.Scalar(k.blinds[j]) {
			t.Fatalf("%s: opening %d is %v", what, j, opening)
		}
	}
}

// basisOpens: a tree that is grown over Basis tells its prover's openings.
func basisOpens(t *testing.T, m *sample.Maker, p api.Params, k secret) {
	t.Helper()
	g, _ := gens.Basis(p.Size() + int(m.Next()%2))
	v, x, e := tree.Grow(g, p, openingsOf(m, k), tapeOf(m, k), challengesOf(m, anyAsked(m, p)))
	errno(t, "Grow", e, api.OK)
	o, e := tree.Extract(g, p, v, x)
	opens(t, "Extract over Basis", o, e, k)
}

func TestP1703Basis(t *testing.T) {
	t.Parallel()
	m := sample.Maker(1703)
	for range 4 {
		for _, p := range allParams(2) {
			basisOpens(t, &m, p, anySecret(&m, p))
		}
	}
	for range 2 {
		for _, p := range allParams(4) {
			basisOpens(t, &m, p, anySecret(&m, p))
			basisOpens(t, &m, p, farSecret(&m, p))
		}
	}
}

// All values of two bits, one by one; and all of four.
func TestP1703EveryValue(t *testing.T) {
	t.Parallel()
	m := sample.Maker(17030)
	for bits := range 3 {
		p := api.Params{Bits: 1 << bits, Count: 1}
		for v := range uint64(1) << p.Bits {
			k := anySecret(&m, p)
			k.vs[0] = v
			basisOpens(t, &m, p, k)
		}
	}
}

func TestP1703GreatBasis(t *testing.T) {
	t.Parallel()
	for _, p := range []api.Params{{Bits: 8, Count: 1}, {Bits: 4, Count: 2}, {Bits: 2, Count: 4}, {Bits: 1, Count: 8}} {
		t.Run("", func(t *testing.T) {
			t.Parallel()
			m := sample.Maker(17031)
			basisOpens(t, &m, p, farSecret(&m, p))
		})
	}
}

// Over ristretto255, where nobody knows a relation, the prover's openings come out, too.
func pointsOpen(t *testing.T, m *sample.Maker, p api.Params) {
	t.Helper()
	g, _ := gens.Standard(p.Size())
	k := anySecret(m, p)
	v, x, e := tree.Grow(g, p, openingsOf(m, k), tapeOf(m, k), challengesOf(m, anyAsked(m, p)))
	errno(t, "Grow", e, api.OK)
	o, e := tree.Extract(g, p, v, x)
	opens(t, "Extract over Point", o, e, k)
	last := &x.Ys[p.Size()-1].Zs[p.Count+1].Xs[2].Ws[1].Node
	for len(last.Kids) > 0 {
		last = &last.Kids[3].Node
	}
	last.B = last.B.Add(num(1))
	errno(t, "Check with another b", tree.Check(g, p, v, x), api.ErrLeaf)
}

func TestP1703Points(t *testing.T) {
	t.Parallel()
	for _, p := range []api.Params{{Bits: 1, Count: 1}, {Bits: 2, Count: 1}, {Bits: 1, Count: 2}, {Bits: 4, Count: 1}, {Bits: 1, Count: 4}} {
		t.Run("", func(t *testing.T) {
			t.Parallel()
			m := sample.Maker(17032)
			pointsOpen(t, &m, p)
		})
	}
}

// The greatest one over ristretto255: 9216 leaves.
func TestP1703GreatPoints(t *testing.T) {
	t.Parallel()
	m := sample.Maker(17033)
	p := api.Params{Bits: 8, Count: 1}
	g, _ := gens.Standard(p.Size())
	k := farSecret(&m, p)
	v, x, e := tree.Grow(g, p, openingsOf(&m, k), tapeOf(&m, k), challengesOf(&m, anyAsked(&m, p)))
	errno(t, "Grow", e, api.OK)
	o, e := tree.Extract(g, p, v, x)
	opens(t, "Extract over Point", o, e, k)
}

// Each part of a tree may be of another tau1 and tau2: behind each y and z T1 and T2 are said anew.
func TestP1703OtherTaus(t *testing.T) {
	t.Parallel()
	m := sample.Maker(17034)
	for _, p := range allParams(4) {
		w, k := basis(p), farSecret(&m, p)
		c := anyAsked(&m, p)
		r := w.honest(k)
		r.taus = func(y, z *big.Int) (*big.Int, *big.Int) { return m.Number(), m.Number() }
		x := w.grown(r, c)
		given := treeOf(&m, sample.Frees(), x)
		g, v := setOf(&m, sample.Frees(), w), elements(&m, sample.Frees(), w.commitments(k))
		o, e := tree.Extract(g, p, v, given)
		opens(t, "Extract with other taus", o, e, k)
	}
}

// The same by trees of Grow, whose parts are put together, each of another tape.
func TestP1703PartsOfManyTrees(t *testing.T) {
	t.Parallel()
	m := sample.Maker(17035)
	for _, p := range allParams(2) {
		g, _ := gens.Basis(p.Size())
		k, c := farSecret(&m, p), challengesOf(&m, anyAsked(&m, p))
		vs, tape := openingsOf(&m, k), tapeOf(&m, k)
		v, whole, e := tree.Grow(g, p, vs, tape, c)
		errno(t, "Grow", e, api.OK)
		for i := range whole.Ys {
			for j := range whole.Ys[i].Zs {
				tape.Tau1, tape.Tau2 = m.Limbs(far(&m)), m.Limbs(far(&m))
				_, other, _ := tree.Grow(g, p, vs, tape, c)
				whole.Ys[i].Zs[j] = other.Ys[i].Zs[j]
			}
		}
		o, e := tree.Extract(g, p, v, whole)
		opens(t, "Extract of parts", o, e, k)

		// But A and S are said once: a part of another rho is of another tree.
		tape.Rho = m.Limbs(far(&m))
		_, other, _ := tree.Grow(g, p, vs, tape, c)
		whole.Ys[p.Size()-1].Zs[0] = other.Ys[p.Size()-1].Zs[0]
		_, e = tree.Extract(g, p, v, whole)
		errno(t, "Extract of a part of another S", e, api.ErrLeaf)
	}
}

// Each list may have challenges of its own: grown by others at each place.
func TestP1703ChallengesOfEachPlace(t *testing.T) {
	t.Parallel()
	m := sample.Maker(17036)
	for _, p := range allParams(2) {
		g, _ := gens.Basis(p.Size())
		k, c := farSecret(&m, p), anyAsked(&m, p)
		vs, tape := openingsOf(&m, k), tapeOf(&m, k)
		v, whole, e := tree.Grow(g, p, vs, tape, challengesOf(&m, c))
		errno(t, "Grow", e, api.OK)
		for i := range whole.Ys {
			own := anyAsked(&m, p)
			own.ys = c.ys
			_, other, _ := tree.Grow(g, p, vs, tape, challengesOf(&m, own))
			whole.Ys[i].Zs = other.Ys[i].Zs
			for j := range whole.Ys[i].Zs {
				own.xs, own.ws, own.us = unlike(&m, 3), unlike(&m, 2), unlikeSquares(&m, 4)
				_, other, _ = tree.Grow(g, p, vs, tape, challengesOf(&m, own))
				whole.Ys[i].Zs[j].Xs = other.Ys[i].Zs[j].Xs
				for l := range whole.Ys[i].Zs[j].Xs {
					own.ws, own.us = unlike(&m, 2), unlikeSquares(&m, 4)
					_, other, _ = tree.Grow(g, p, vs, tape, challengesOf(&m, own))
					whole.Ys[i].Zs[j].Xs[l].Ws = other.Ys[i].Zs[j].Xs[l].Ws
				}
			}
		}
		o, e := tree.Extract(g, p, v, whole)
		opens(t, "Extract of a tree of many challenges", o, e, k)
	}
}

// Generators from N on are not looked at.
func TestP1703GeneratorsBehind(t *testing.T) {
	m := sample.Maker(17037)
	p := api.Params{Bits: 2, Count: 1}
	g, _ := gens.Basis(2)
	k := farSecret(&m, p)
	v, x, _ := tree.Grow(g, p, openingsOf(&m, k), tapeOf(&m, k), small(p))
	g.G, g.H = append(slices.Clone(g.G), g.B, g.Q), append(slices.Clone(g.H), g.G[0])
	o, e := tree.Extract(g, p, v, x)
	opens(t, "Extract with more generators", o, e, k)

	// A relation of generators behind is none of the tree's.
	lines, _ := gens.Lines([]byte("behind"), 4)
	v2, y, _ := tree.Grow(lines, p, openingsOf(&m, k), tapeOf(&m, k), small(p))
	o, e = tree.Extract(lines, p, v2, y)
	opens(t, "Extract over Line", o, e, k)
}

// Where both can be had a grown tree tells openings, or a relation: over any generators, neutral and same ones among them.
func TestP1703AnyGenerators(t *testing.T) {
	t.Parallel()
	m := sample.Maker(17038)
	for range 3 {
		for _, p := range allParams(2) {
			grownOver(t, &m, sample.Lines(), anyWorld(&m, sample.Lines(), p))
			grownOver(t, &m, sample.Frees(), anyWorld(&m, sample.Frees(), p))
			grownOver(t, &m, sample.Boxes(), anyWorld(&m, sample.Boxes(), p))
			grownOver(t, &m, sample.Lines(), world{p: p, g: make([]numbers, p.Size()), h: make([]numbers, p.Size())})
		}
	}
	for _, p := range allParams(4) {
		grownOver(t, &m, sample.Lines(), anyWorld(&m, sample.Lines(), p))
		grownOver(t, &m, sample.Frees(), anyWorld(&m, sample.Frees(), p))
	}
}

func grownOver[P msm.Group[P]](t *testing.T, m *sample.Maker, kind sample.Kind[P], w world) {
	t.Helper()
	k := anySecret(m, w.p)
	x := w.grown(w.honest(k), anyAsked(m, w.p))
	if ok, _ := extract(t, "a grown tree", m, kind, w, w.commitments(k), x); !ok {
		t.Fatal("a grown tree is not accepted")
	}
}

// Commitments, generators or a whole tree of zeros.
func TestP1703Zeros(t *testing.T) {
	for _, p := range allParams(2) {
		x := turnTree(basis(p).grown(basis(p).honest(zeroSecret(p)), smallAsked(p)), func(numbers) group.Point { return group.Point{} }, func(k scalar.Scalar) scalar.Scalar { return k })
		var g gens.Set[group.Point]
		g.G, g.H = make([]group.Point, p.Size()), make([]group.Point, p.Size())
		o, e := tree.Extract(g, p, make([]group.Point, p.Count), x)
		errno(t, "Extract over neutral elements", e, api.OK)
		if len(o.Openings) == 0 && len(o.Relation) != 3+2*p.Size() {
			t.Errorf("Extract over neutral elements: %v", o)
		}
	}
}
