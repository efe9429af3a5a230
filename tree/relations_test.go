package tree_test

// P1703: trees of somebody who takes logarithms, over groups of one number: what comes out is an opening in range or a relation.

import (
	"math/big"
	"testing"

	"veil/api"
	"veil/msm"
	"veil/sample"
	"veil/tree"
)

// solvedLeaf: any a, and the b with which it is accepted; false, if there is none.
func (s stated) solvedLeaf(m *sample.Maker) (aNode, bool) {
	a := m.Number()
	missing := minus(s.p.At(0), times(a, s.g[0].At(0)))
	factor := plus(s.h[0].At(0), times(a, s.q.At(0)))
	b := m.Number()
	if factor.Sign() != 0 {
		b = times(missing, inverse(factor))
	} else if missing.Sign() != 0 {
		return aNode{}, false
	}
	return aNode{A: sample.Scalar(a), B: sample.Scalar(b), L: s.q, R: s.p}, true
}

// solved: a node of anything that is accepted all the same; false, if none was found.
func (s stated) solved(m *sample.Maker) (aNode, bool) {
	if len(s.g) == 1 {
		for range 9 {
			if n, ok := s.solvedLeaf(m); ok {
				return n, true
			}
		}
		return aNode{}, false
	}
	n := aNode{A: sample.Scalar(m.Number()), B: sample.Scalar(m.Number()), L: numbers{m.Number()}, R: numbers{m.Number()}}
	for _, u := range unlikeSquares(m, 4) {
		kid, ok := s.folded(n.L, n.R, u).solved(m)
		if !ok {
			return aNode{}, false
		}
		n.Kids = append(n.Kids, aKid{sample.Scalar(u), kid})
	}
	return n, true
}

// solvedFirst: the taux, or else the that, with which the first equation holds; false, if there is none.
func (w world) solvedFirst(v []numbers, y *big.Int, z aZ, x *aX) bool {
	left := w.right(v, y, z, *x).At(0)
	if b := w.blind.At(0); b.Sign() != 0 {
		x.TauX = sample.Scalar(times(minus(left, times(w.b.At(0), number(x.That))), inverse(b)))
		return true
	}
	if b := w.b.At(0); b.Sign() != 0 {
		x.That = sample.Scalar(times(left, inverse(b)))
		return true
	}
	return left.Sign() == 0
}

// solved: a tree that nobody grew, and that is accepted; false, if none was found.
func (w world) solved(m *sample.Maker, v []numbers) (aTree, bool) {
	any := func() numbers { return numbers{m.Number()} }
	t := aTree{A: any(), S: any()}
	for _, y := range unlike(m, w.p.Size()) {
		branch := aY{Y: sample.Scalar(y)}
		for _, zn := range unlike(m, w.p.Count+2) {
			z := aZ{Z: sample.Scalar(zn), T1: any(), T2: any()}
			for _, xn := range unlike(m, 3) {
				x := aX{X: sample.Scalar(xn), TauX: sample.Scalar(m.Number()), Mu: sample.Scalar(m.Number()), That: sample.Scalar(m.Number())}
				if !w.solvedFirst(v, y, z, &x) {
					return t, false
				}
				for _, ch := range unlike(m, 2) {
					n, ok := w.statement(t, y, zn, x, ch).solved(m)
					if !ok {
						return t, false
					}
					x.Ws = append(x.Ws, aW{sample.Scalar(ch), n})
				}
				z.Xs = append(z.Xs, x)
			}
			branch.Zs = append(branch.Zs, z)
		}
		t.Ys = append(t.Ys, branch)
	}
	return t, true
}

// Trees that nobody grew.
func TestP1703NobodyGrew(t *testing.T) {
	t.Parallel()
	m := sample.Maker(170300)
	relations, count := 0, 0
	for count < 60 {
		for _, p := range allParams(2) {
			w, v := anyWorld(&m, sample.Lines(), p), anyList(&m, sample.Lines(), p.Count)
			x, ok := w.solved(&m, v)
			if !ok {
				continue
			}
			count++
			accepted, relation := extract(t, "a tree that nobody grew", &m, sample.Lines(), w, v, x)
			if !accepted {
				t.Fatal("a solved tree is not accepted")
			}
			if relation {
				relations++
			}
			extract(t, "a tree that nobody grew", &m, sample.Boxes(), w, v, x)
		}
	}
	if relations < 20 {
		t.Errorf("%d relations alone", relations)
	}
	for _, p := range allParams(4) {
		w, v := plainWorld(&m, p), anyList(&m, sample.Lines(), p.Count)
		x, ok := w.solved(&m, v)
		if !ok {
			t.Fatal("no tree was found")
		}
		if _, relation := extract(t, "a tree that nobody grew", &m, sample.Lines(), w, v, x); !relation {
			t.Error("a tree of anything opens commitments")
		}
	}
}

// The same over ristretto255, with generators whose logarithms are known.
func TestP1703NobodyGrewPoints(t *testing.T) {
	t.Parallel()
	m := sample.Maker(170301)
	for _, p := range allParams(2) {
		w := plainWorld(&m, p)
		v := anyList(&m, sample.Points(), p.Count)
		x, ok := w.solved(&m, v)
		if !ok {
			t.Fatal("no tree was found")
		}
		if _, relation := extract(t, "a tree that nobody grew", &m, sample.Points(), w, v, x); !relation {
			t.Error("a tree of anything opens commitments")
		}
	}
}

// spot: one conversation of a tree.
type spot struct{ y, z, x, w int }

func anySpot(m *sample.Maker, p api.Params) spot {
	pick := func(count int) int { return int(m.Next() % uint64(count)) }
	return spot{pick(p.Size()), pick(p.Count + 2), pick(3), pick(2)}
}

// of: the branches of a spot.
func (s spot) of(t *aTree) (y *aY, z *aZ, x *aX, w *aW) {
	y = &t.Ys[s.y]
	z = &y.Zs[s.z]
	x = &z.Xs[s.x]
	return y, z, x, &x.Ws[s.w]
}

// statement: of a spot's node.
func (w world) statementAt(t *aTree, s spot) stated {
	y, z, x, b := s.of(t)
	return w.statement(*t, number(y.Y), number(z.Z), *x, number(b.W))
}

// otherLists: a and b of which all but one is anything, with <a, g> + <b, h> + <a, b> q = p.
func (s stated) otherLists(m *sample.Maker, q bool) (a, b numbers) {
	size := len(s.g)
	if !q {
		s.q = numbers{}
	}
	for {
		a, b = farNumbers(m, size), farNumbers(m, size)
		b[0] = new(big.Int)
		factor := plus(s.h[0].At(0), times(a[0], s.q.At(0)))
		if factor.Sign() != 0 {
			b[0] = times(minus(s.p.At(0), s.image(a, b).At(0)), inverse(factor))
			return a, b
		}
	}
}

// turn: one conversation of a grown tree is made up anew by somebody who takes logarithms.
type turn struct {
	name string
	do   func(m *sample.Maker, w world, v []numbers, c asked, t *aTree, s spot)
}

func turns() []turn {
	return []turn{
		// One leaf is another one: the branches of a node don't agree.
		{"leaf", func(m *sample.Maker, w world, v []numbers, c asked, t *aTree, s spot) {
			_, _, _, b := s.of(t)
			at, n := w.statementAt(t, s), &b.Node
			for len(n.Kids) > 0 {
				i := m.Next() % 4
				at, n = at.folded(n.L, n.R, number(n.Kids[i].U)), &n.Kids[i].Node
			}
			*n, _ = at.solvedLeaf(m)
		}},
		// A whole node inside is of other lists: it agrees with itself.
		{"node", func(m *sample.Maker, w world, v []numbers, c asked, t *aTree, s spot) {
			_, _, _, b := s.of(t)
			at, n := w.statementAt(t, s), &b.Node
			if len(n.Kids) > 0 {
				i := m.Next() % 4
				at, n = at.folded(n.L, n.R, number(n.Kids[i].U)), &n.Kids[i].Node
			}
			a, b2 := at.otherLists(m, true)
			*n = at.grown(a, b2, c.us)
		}},
		// Behind one w other lists are known than behind the other.
		{"w", func(m *sample.Maker, w world, v []numbers, c asked, t *aTree, s spot) {
			_, _, _, b := s.of(t)
			at := w.statementAt(t, s)
			l, r := at.otherLists(m, true)
			b.Node = at.grown(l, r, c.us)
		}},
		// Another that, with which the first equation holds, and lists that fit to it for each w by itself.
		{"that", func(m *sample.Maker, w world, v []numbers, c asked, t *aTree, s spot) {
			y, z, x, _ := s.of(t)
			x.That = sample.Scalar(far(m))
			w.solvedFirst(v, number(y.Y), *z, x)
			for s.w = range 2 {
				_, _, _, b := s.of(t)
				at := w.statementAt(t, s)
				l, r := at.otherLists(m, true)
				b.Node = at.grown(l, r, c.us)
			}
		}},
		// Another mu, and behind it other l and r with their inner product: all agree that were asked behind this x.
		{"mu", func(m *sample.Maker, w world, v []numbers, c asked, t *aTree, s spot) {
			y, z, x, _ := s.of(t)
			x.Mu = sample.Scalar(far(m))
			at := w.statementAt(t, s)
			at.p = w.second(*t, number(y.Y), number(z.Z), *x)
			l, r := at.otherLists(m, false)
			x.That = sample.Scalar(inner(l, r))
			w.solvedFirst(v, number(y.Y), *z, x)
			x.Ws = w.grownWs(*t, c, number(y.Y), number(z.Z), *x, l, r)
		}},
	}
}

// One conversation is made up anew: the tree is accepted, and what comes out is known; here always a relation, for nothing comes out by chance.
func TestP1703OneMadeUpAnew(t *testing.T) {
	t.Parallel()
	m := sample.Maker(170302)
	for _, turn := range turns() {
		for range 3 {
			for _, p := range allParams(2) {
				oneAnew(t, &m, sample.Lines(), p, turn)
				oneAnew(t, &m, sample.Boxes(), p, turn)
			}
		}
		oneAnew(t, &m, sample.Lines(), api.Params{Bits: 4, Count: 1}, turn)
		oneAnew(t, &m, sample.Lines(), api.Params{Bits: 2, Count: 2}, turn)
	}
}

func oneAnew[P msm.Group[P]](t *testing.T, m *sample.Maker, kind sample.Kind[P], p api.Params, turn turn) {
	t.Helper()
	w, k, c := plainWorld(m, p), farSecret(m, p), anyAsked(m, p)
	v, x := w.commitments(k), w.grown(w.honest(k), c)
	turn.do(m, w, v, c, &x, anySpot(m, p))
	ok, relation := extract(t, "another "+turn.name, m, kind, w, v, x)
	if !ok || !relation {
		t.Fatalf("%v, another %s over %s: accepted %v, a relation %v", p, turn.name, kind.Name, ok, relation)
	}
}

func TestP1703OneMadeUpAnewGreat(t *testing.T) {
	t.Parallel()
	m := sample.Maker(170303)
	for _, turn := range turns()[1:3] {
		oneAnew(t, &m, sample.Lines(), api.Params{Bits: 8, Count: 1}, turn)
	}
}

// cheat: a prover that knows no bits, but takes logarithms: its taux are those that the first equation asks for.
func (w world) cheat(m *sample.Maker, v []numbers, aL, aR numbers) prover {
	n := w.p.Size()
	r := prover{aL: aL, aR: aR, sL: farNumbers(m, n), sR: farNumbers(m, n), alpha: far(m), rho: far(m)}
	r.taus = func(y, z *big.Int) (*big.Int, *big.Int) { return far(m), far(m) }
	r.taux = func(tau1, tau2, y *big.Int, z aZ, x aX) *big.Int {
		w.solvedFirst(v, y, z, &x)
		return number(x.TauX)
	}
	return r
}

// Lists in the bits' places that are no bits, or don't fit to each other: all conversations agree, but for the commitments.
func TestP1703NoBits(t *testing.T) {
	t.Parallel()
	m := sample.Maker(170304)
	for _, p := range allParams(4) {
		w, v := plainWorld(&m, p), []numbers{}
		for range p.Count {
			v = append(v, numbers{far(&m)})
		}
		bits := func() (aL, aR numbers) {
			r := w.honest(anySecret(&m, p))
			return r.aL, r.aR
		}
		place := int(m.Next() % uint64(p.Size()))
		for name, change := range map[string]func(aL, aR numbers){
			"any aL and aR":   func(aL, aR numbers) { copy(aL, farNumbers(&m, p.Size())); copy(aR, farNumbers(&m, p.Size())) },
			"a 2 among bits":  func(aL, aR numbers) { aL[place], aR[place] = big.NewInt(2), big.NewInt(1) },
			"a -1 among bits": func(aL, aR numbers) { aL[place], aR[place] = negative(big.NewInt(1)), negative(big.NewInt(2)) },
			"both 0":          func(aL, aR numbers) { aL[place], aR[place] = new(big.Int), new(big.Int) },
			"0 and any aR":    func(aL, aR numbers) { aL[place], aR[place] = new(big.Int), far(&m) },
		} {
			aL, aR := bits()
			change(aL, aR)
			x := w.grown(w.cheat(&m, v, aL, aR), anyAsked(&m, p))
			ok, relation := extract(t, name, &m, sample.Lines(), w, v, x)
			if !ok || !relation {
				t.Fatalf("%v, %s: accepted %v, a relation %v", p, name, ok, relation)
			}
		}

		// Bits of which the commitments were not made: who takes logarithms opens them so, too, and in range.
		aL, aR := bits()
		x := w.grown(w.cheat(&m, v, aL, aR), anyAsked(&m, p))
		if ok, relation := extract(t, "other bits", &m, sample.Lines(), w, v, x); !ok || relation {
			t.Fatalf("%v, other bits: accepted %v, a relation %v", p, ok, relation)
		}
	}
}

// No bits, but such as one y takes for bits: all that is asked behind it fits to some opening, which is out of range.
func TestP1703OneYIsNotEnough(t *testing.T) {
	t.Parallel()
	m := sample.Maker(170307)
	one := big.NewInt(1)
	for _, p := range []api.Params{{Bits: 2, Count: 1}, {Bits: 1, Count: 2}} {
		for place := range p.Size() {
			w, aL, v := plainWorld(&m, p), farNumbers(&m, 2), []numbers{}
			aR := numbers{minus(aL[0], one), minus(aL[1], one)}
			for range p.Count {
				v = append(v, numbers{far(&m)})
			}
			// aL_0 aR_0 + y aL_1 aR_1 = 0
			c := farAsked(&m, p)
			c.ys[place] = times(negative(times(aL[0], aR[0])), inverse(times(aL[1], aR[1])))
			x := w.grown(w.cheat(&m, v, aL, aR), c)
			if ok, relation := extract(t, "bits for one y", &m, sample.Lines(), w, v, x); !ok || !relation {
				t.Fatalf("%v: accepted %v, a relation %v", p, ok, relation)
			}
		}
	}
}

// No bits, but such as all z but one take for bits.
func TestP1703OneZTooFewIsNotEnough(t *testing.T) {
	t.Parallel()
	m := sample.Maker(170308)
	one, p := big.NewInt(1), api.Params{Bits: 1, Count: 1}
	for place := range 3 {
		w, v := plainWorld(&m, p), []numbers{{far(&m)}}
		// aL aR + z (aL - aR - 1) + z z (aL - v) is 0 at two places: v is the opening that these would tell.
		c := farAsked(&m, p)
		z1, aL, k0 := c.zs[(place+1)%3], far(&m), far(&m)
		aR := times(k0, inverse(aL))
		k1 := minus(minus(aL, aR), one)
		// By two z of three: k0 + z1 k1 over z1 z1 must be k0 + z2 k1 over z2 z2: so z2 is -z1 k0 / (k0 + z1 k1).
		c.zs[(place+2)%3] = times(negative(times(z1, k0)), inverse(plus(k0, times(z1, k1))))
		x := w.grown(w.cheat(&m, v, numbers{aL}, numbers{aR}), c)
		if ok, relation := extract(t, "bits for two z", &m, sample.Lines(), w, v, x); !ok || !relation {
			t.Fatalf("accepted %v, a relation %v", ok, relation)
		}
	}
}

// B, Blind or Q neutral, or all of G or of H: what is free by that may be anything.
func TestP1703NeutralGenerators(t *testing.T) {
	t.Parallel()
	m := sample.Maker(170305)
	for range 2 {
		for _, p := range allParams(2) {
			for which := range 32 {
				w := plainWorld(&m, p)
				for i, one := range []*numbers{&w.b, &w.blind, &w.q} {
					if which>>i&1 == 1 {
						*one = numbers{}
					}
				}
				for i, list := range [][]numbers{w.g, w.h} {
					if which>>(3+i)&1 == 1 {
						clear(list)
					}
				}
				k, c := farSecret(&m, p), anyAsked(&m, p)
				v, x := w.commitments(k), w.grown(w.honest(k), c)
				loosen(&m, w, &x)
				if ok, _ := extract(t, "what is free is anything", &m, sample.Lines(), w, v, x); !ok {
					t.Fatal("what is free is not free")
				}
			}
		}
	}
}

// loosen: another scalar, wherever a tree is accepted with it all the same.
func loosen(m *sample.Maker, w world, x *aTree) {
	for range 6 {
		s := anySpot(m, w.p)
		_, _, b, branch := s.of(x)
		at, n := w.statementAt(x, s), &branch.Node
		for len(n.Kids) > 0 {
			i := m.Next() % 4
			at, n = at.folded(n.L, n.R, number(n.Kids[i].U)), &n.Kids[i].Node
		}
		if other := (aNode{A: sample.Scalar(far(m)), B: n.B}); at.accepts(other) {
			*n = other
		}
		if other := (aNode{A: n.A, B: sample.Scalar(far(m))}); at.accepts(other) {
			*n = other
		}
		if w.blind.Same(numbers{}) {
			b.TauX, b.Mu = sample.Scalar(far(m)), sample.Scalar(far(m))
		}
	}
}

// The example of the chapter: B = 1, Blind = 2, the commitment 5, which is 1 + 2 2 and 3 + 2 1.
func TestExample4TwoOpenings(t *testing.T) {
	m := sample.Maker(170306)
	p := api.Params{Bits: 1, Count: 1}
	one := func(n int64) numbers { return sample.Small(n) }
	w := world{p: p, b: one(1), blind: one(2), q: one(3), g: []numbers{one(5)}, h: []numbers{one(7)}}
	k := farSecret(&m, p)
	k.vs[0], k.blinds[0] = 1, big.NewInt(2)
	v := w.commitments(k)
	if !v[0].Same(one(5)) {
		t.Fatal("another commitment")
	}
	x := w.grown(w.honest(k), smallAsked(p))
	if ok, relation := extract(t, "1 + 2 2", &m, sample.Lines(), w, v, x); !ok || relation {
		t.Error("an honest tree tells no opening")
	}
	// 3 is no bit: with that opening in mind, and logarithms, a relation comes out.
	three := w.cheat(&m, v, sample.Small(3), sample.Small(2))
	if ok, relation := extract(t, "3 + 2 1", &m, sample.Lines(), w, v, w.grown(three, smallAsked(p))); !ok || !relation {
		t.Error("a tree of 3 tells no relation")
	}
	if _, _, e := tree.Grow(setOf(&m, sample.Lines(), w), p, nil, tapeOf(&m, k), small(p)); e != api.ErrLength {
		t.Error("a tree without openings")
	}
}
