package witness_test

// P2203: trees of somebody who takes logarithms, over groups of one number: what comes out is an assignment that holds, with blindings that open the commitments, or a relation.

import (
	"math/big"
	"slices"
	"testing"

	"veil/api"
	"veil/circuit"
	"veil/gens"
	"veil/msm"
	"veil/sample"
	"veil/scalar"
	"veil/witness"
)

// solvedLeaf: any a, and the b with which it is accepted; false, if there is none.
func (s stated) solvedLeaf(m *sample.Maker) (aNode, bool) {
	a := m.Number()
	missing := minus(s.p.At(0), times(a, s.g[0].At(0)))
	factor := plus(s.h[0].At(0), times(a, s.q.At(0)))
	b := m.Number()
	if factor.Sign() != 0 {
		b = times(missing, inverse(factor))
	} else if missing.Sign() != 0 {
		return aNode{}, false
	}
	return aNode{A: sample.Scalar(a), B: sample.Scalar(b), L: s.q, R: s.p}, true
}

// solved: a node of anything that is accepted all the same; false, if none was found.
func (s stated) solved(m *sample.Maker) (aNode, bool) {
	if len(s.g) == 1 {
		for range 9 {
			if n, ok := s.solvedLeaf(m); ok {
				return n, true
			}
		}
		return aNode{}, false
	}
	n := aNode{A: sample.Scalar(m.Number()), B: sample.Scalar(m.Number()), L: numbers{m.Number()}, R: numbers{m.Number()}}
	for _, u := range unlikeSquares(m, 4) {
		kid, ok := s.folded(n.L, n.R, u).solved(m)
		if !ok {
			return aNode{}, false
		}
		n.Kids = append(n.Kids, aKid{U: sample.Scalar(u), Node: kid})
	}
	return n, true
}

// solvedFirst: the taux, or else the that, with which the first equation holds; false, if there is none.
func (w world) solvedFirst(v []numbers, at behind, z aZ, x *aX) bool {
	left := w.right(v, at, z, *x).At(0)
	if b := w.blind.At(0); b.Sign() != 0 {
		x.TauX = sample.Scalar(times(minus(left, times(w.b.At(0), number(x.That))), inverse(b)))
		return true
	}
	if b := w.b.At(0); b.Sign() != 0 {
		x.That = sample.Scalar(times(left, inverse(b)))
		return true
	}
	return left.Sign() == 0
}

// solved: a tree that nobody grew, and that is accepted; false, if none was found.
func (w world) solved(m *sample.Maker, v []numbers) (aTree, bool) {
	any := func() numbers { return numbers{m.Number()} }
	t := aTree{AI: any(), AO: any(), S: any()}
	for _, y := range unlike(m, w.size()) {
		branch := aY{Y: sample.Scalar(y)}
		for _, zn := range unlike(m, len(w.requires)+1) {
			at := w.behind(y, zn)
			z := aZ{Z: sample.Scalar(zn), T1: any(), T3: any(), T4: any(), T5: any(), T6: any()}
			for _, xn := range unlike(m, 6) {
				x := aX{X: sample.Scalar(xn), TauX: sample.Scalar(m.Number()), Mu: sample.Scalar(m.Number()), That: sample.Scalar(m.Number())}
				if !w.solvedFirst(v, at, z, &x) {
					return t, false
				}
				for _, ch := range unlike(m, 2) {
					n, ok := w.statement(t, at, x, ch).solved(m)
					if !ok {
						return t, false
					}
					x.Ws = append(x.Ws, aW{W: sample.Scalar(ch), Node: n})
				}
				z.Xs = append(z.Xs, x)
			}
			branch.Zs = append(branch.Zs, z)
		}
		t.Ys = append(t.Ys, branch)
	}
	return t, true
}

// impossible: a system that nothing satisfies: of the one wire alone.
func impossible(s system) system {
	s.requires = append(slices.Clone(s.requires), []term{{circuit.Wire{Kind: api.WireOne}, big.NewInt(5)}})
	return s
}

// Trees that nobody grew, about systems that something satisfies and such that nothing does.
func TestP2203NobodyGrew(t *testing.T) {
	t.Parallel()
	m := sample.Maker(220300)
	relations, count := 0, 0
	for count < 60 {
		for _, h := range append(tiny(), small()[:3]...) {
			s, _ := anyCase(&m, h)
			if count%2 == 1 {
				s = impossible(s)
			}
			w, v := anyWorld(&m, sample.Lines(), s), anyList(&m, sample.Lines(), s.values)
			x, ok := w.solved(&m, v)
			if !ok {
				continue
			}
			count++
			accepted, relation := extract(t, "a tree that nobody grew", &m, sample.Lines(), w, v, x)
			if !accepted {
				t.Fatal("a solved tree is not accepted")
			}
			if relation {
				relations++
			}
			extract(t, "a tree that nobody grew", &m, sample.Boxes(), w, v, x)
		}
	}
	if relations < 20 {
		t.Errorf("%d relations alone", relations)
	}
	for _, h := range append(small(), middle()[:2]...) {
		s, _ := farCase(&m, h)
		w, v := plainWorld(&m, s), anyList(&m, sample.Lines(), s.values)
		x, ok := w.solved(&m, v)
		if !ok {
			t.Fatal("no tree was found")
		}
		if _, relation := extract(t, "a tree that nobody grew", &m, sample.Lines(), w, v, x); !relation {
			t.Error("a tree of anything tells an assignment")
		}
	}
}

// The same over ristretto255, with generators whose logarithms are known.
func TestP2203NobodyGrewPoints(t *testing.T) {
	t.Parallel()
	m := sample.Maker(220301)
	for _, h := range []shape{{0, 0, 0}, {1, 1, 0}, {1, 2, 0}} {
		s, _ := farCase(&m, h)
		w := plainWorld(&m, s)
		v := anyList(&m, sample.Points(), s.values)
		x, ok := w.solved(&m, v)
		if !ok {
			t.Fatal("no tree was found")
		}
		if _, relation := extract(t, "a tree that nobody grew", &m, sample.Points(), w, v, x); !relation {
			t.Error("a tree of anything tells an assignment")
		}
	}
}

// spot: one conversation of a tree.
type spot struct{ y, z, x, w int }

func anySpot(m *sample.Maker, s system) spot {
	pick := func(count int) int { return int(m.Next() % uint64(count)) }
	return spot{pick(s.size()), pick(len(s.requires) + 1), pick(6), pick(2)}
}

// of: the branches of a spot.
func (s spot) of(t *aTree) (y *aY, z *aZ, x *aX, w *aW) {
	y = &t.Ys[s.y]
	z = &y.Zs[s.z]
	x = &z.Xs[s.x]
	return y, z, x, &x.Ws[s.w]
}

// at: of a spot.
func (w world) at(t *aTree, s spot) behind {
	y, z, _, _ := s.of(t)
	return w.behind(number(y.Y), number(z.Z))
}

// statement: of a spot's node.
func (w world) statementAt(t *aTree, s spot) stated {
	_, _, x, b := s.of(t)
	return w.statement(*t, w.at(t, s), *x, number(b.W))
}

// otherLists: a and b of which all but one is anything, with <a, g> + <b, h> + <a, b> q = p.
func (s stated) otherLists(m *sample.Maker, q bool) (a, b numbers) {
	size := len(s.g)
	if !q {
		s.q = numbers{}
	}
	for {
		a, b = farNumbers(m, size), farNumbers(m, size)
		b[0] = new(big.Int)
		factor := plus(s.h[0].At(0), times(a[0], s.q.At(0)))
		if factor.Sign() != 0 {
			b[0] = times(minus(s.p.At(0), s.image(a, b).At(0)), inverse(factor))
			return a, b
		}
	}
}

// turn: one conversation of a grown tree is made up anew by somebody who takes logarithms.
type turn struct {
	name string
	do   func(m *sample.Maker, w world, v []numbers, c asked, t *aTree, s spot)
}

func turns() []turn {
	return []turn{
		// One leaf is another one: the branches of a node don't agree.
		{"leaf", func(m *sample.Maker, w world, v []numbers, c asked, t *aTree, s spot) {
			_, _, _, b := s.of(t)
			at, n := w.statementAt(t, s), &b.Node
			for len(n.Kids) > 0 {
				i := m.Next() % 4
				at, n = at.folded(n.L, n.R, number(n.Kids[i].U)), &n.Kids[i].Node
			}
			*n, _ = at.solvedLeaf(m)
		}},
		// A whole node inside is of other lists: it agrees with itself.
		{"node", func(m *sample.Maker, w world, v []numbers, c asked, t *aTree, s spot) {
			_, _, _, b := s.of(t)
			at, n := w.statementAt(t, s), &b.Node
			if len(n.Kids) > 0 {
				i := m.Next() % 4
				at, n = at.folded(n.L, n.R, number(n.Kids[i].U)), &n.Kids[i].Node
			}
			a, b2 := at.otherLists(m, true)
			*n = at.grown(a, b2, c.us)
		}},
		// Behind one w other lists are known than behind the other.
		{"w", func(m *sample.Maker, w world, v []numbers, c asked, t *aTree, s spot) {
			_, _, _, b := s.of(t)
			at := w.statementAt(t, s)
			l, r := at.otherLists(m, true)
			b.Node = at.grown(l, r, c.us)
		}},
		// Another that, with which the first equation holds, and lists that fit to it for each w by itself.
		{"that", func(m *sample.Maker, w world, v []numbers, c asked, t *aTree, s spot) {
			_, z, x, _ := s.of(t)
			x.That = sample.Scalar(far(m))
			w.solvedFirst(v, w.at(t, s), *z, x)
			for s.w = range 2 {
				_, _, _, b := s.of(t)
				at := w.statementAt(t, s)
				l, r := at.otherLists(m, true)
				b.Node = at.grown(l, r, c.us)
			}
		}},
		// Another mu, and behind it other l and r with their inner product: all agree that were asked behind this x.
		{"mu", func(m *sample.Maker, w world, v []numbers, c asked, t *aTree, s spot) {
			_, z, x, _ := s.of(t)
			x.Mu = sample.Scalar(far(m))
			w.anew(m, v, c, t, z, x, w.at(t, s))
		}},
		// The same behind each x of one y and z.
		{"z", func(m *sample.Maker, w world, v []numbers, c asked, t *aTree, s spot) {
			_, z, _, _ := s.of(t)
			for i := range z.Xs {
				z.Xs[i].Mu = sample.Scalar(far(m))
				w.anew(m, v, c, t, z, &z.Xs[i], w.at(t, s))
			}
		}},
	}
}

// anew: other l and r behind an x, with their inner product.
func (w world) anew(m *sample.Maker, v []numbers, c asked, t *aTree, z *aZ, x *aX, at behind) {
	l, r := stated{p: w.second(*t, at, *x), g: w.g[:w.size()], h: at.h}.otherLists(m, false)
	x.That = sample.Scalar(inner(l, r))
	w.solvedFirst(v, at, *z, x)
	x.Ws = w.grownWs(*t, c, at, *x, l, r)
}

// One conversation is made up anew: the tree is accepted, and what comes out is known; here always a relation, for nothing comes out by chance.
func oneAnew[P msm.Group[P]](t *testing.T, m *sample.Maker, kind sample.Kind[P], h shape, turn turn, at func(s system) spot) {
	t.Helper()
	s, k := farCase(m, h)
	w, c := plainWorld(m, s), anyAsked(m, s)
	v, x := w.commitments(k), w.grown(w.honest(k), c)
	turn.do(m, w, v, c, &x, at(s))
	ok, relation := extract(t, "another "+turn.name, m, kind, w, v, x)
	if !ok || !relation {
		t.Fatalf("%v, another %s over %s: accepted %v, a relation %v", h, turn.name, kind.Name, ok, relation)
	}
}

func TestP2203OneMadeUpAnew(t *testing.T) {
	t.Parallel()
	m := sample.Maker(220302)
	somewhere := func(s system) spot { return anySpot(&m, s) }
	for _, turn := range turns() {
		for _, h := range append(tiny(), small()...) {
			oneAnew(t, &m, sample.Lines(), h, turn, somewhere)
		}
		oneAnew(t, &m, sample.Boxes(), shape{1, 1, 1}, turn, somewhere)
		oneAnew(t, &m, sample.Lines(), shape{1, 3, 1}, turn, somewhere)
	}
}

// Each conversation of a small tree by itself: none goes unheard.
func TestP2203EachMadeUpAnew(t *testing.T) {
	t.Parallel()
	m := sample.Maker(220303)
	for _, turn := range turns() {
		for _, h := range []shape{{0, 0, 0}, {0, 1, 1}, {1, 1, 0}, {0, 2, 0}} {
			s := h.begun()
			for y := range s.size() {
				for z := range len(s.requires) + h.more + 1 {
					for x := range 6 {
						for w := range 2 {
							oneAnew(t, &m, sample.Lines(), h, turn, func(system) spot { return spot{y, z, x, w} })
						}
					}
				}
			}
		}
	}
}

func TestP2203OneMadeUpAnewGreat(t *testing.T) {
	t.Parallel()
	m := sample.Maker(220304)
	for _, turn := range turns()[1:3] {
		oneAnew(t, &m, sample.Lines(), shape{1, 6, 0}, turn, func(s system) spot { return anySpot(&m, s) })
	}
}

// cheat: a prover of any wires, that takes logarithms: its taux are those that the first equation asks for.
func (w world) cheat(m *sample.Maker, v []numbers, a wired) prover {
	n := w.size()
	return prover{
		aL: w.padded(a.l), aR: w.padded(a.r), aO: w.padded(a.o), bO: nothing(n),
		sL: farNumbers(m, n), sR: farNumbers(m, n), alpha: far(m), beta: far(m), rho: far(m),
		taus: func() (ts taus) {
			for e := range ts {
				ts[e] = far(m)
			}
			return ts
		},
		taux: func(ts taus, at behind, z aZ, x aX) *big.Int {
			w.solvedFirst(v, at, z, &x)
			return number(x.TauX)
		},
	}
}

// cheated: of the tree of a cheating prover, which must be accepted: does a relation come out?
func cheated(t *testing.T, what string, m *sample.Maker, w world, v []numbers, r prover, c asked) bool {
	t.Helper()
	ok, relation := extract(t, what, m, sample.Lines(), w, v, w.grown(r, c))
	if !ok {
		t.Fatalf("%s: not accepted", what)
	}
	return relation
}

// Wires that do not hold: all conversations agree, but for the commitments.
func TestP2203WiresThatDoNotHold(t *testing.T) {
	t.Parallel()
	m := sample.Maker(220305)
	for _, h := range append(append(tiny(), small()...), middle()[:3]...) {
		s, k := farCase(&m, h)
		w := plainWorld(&m, s)
		v := w.commitments(k)
		gate, value := 0, 0
		if h.gates > 0 {
			gate = int(m.Next() % uint64(h.gates))
		}
		if h.values > 0 {
			value = int(m.Next() % uint64(h.values))
		}
		right := w.cheat(&m, v, k.wired)
		if cheated(t, "wires that hold", &m, w, v, right, anyAsked(&m, s)) {
			t.Fatalf("%v: a relation of wires that hold", h)
		}
		for _, fault := range []struct {
			name string
			do   func(r *prover) bool // false: there is no such thing here
		}{
			{"a gate that does not multiply", func(r *prover) bool {
				if h.gates == 0 {
					return false
				}
				r.aO[gate] = plus(r.aO[gate], far(&m))
				return true
			}},
			{"a value's wire", func(r *prover) bool {
				// All requirements name it, and it must be the value: whoever takes logarithms opens the commitment to another one, if no other requirement is there.
				if h.values == 0 || h.more == 0 {
					return false
				}
				r.aL[value], r.aR[value], r.aO[value] = far(&m), new(big.Int), new(big.Int)
				return true
			}},
			{"a requirement", func(r *prover) bool {
				if h.gates == 0 || h.more == 0 || h.values == h.gates {
					return false
				}
				i := h.gates - 1
				r.aR[i] = far(&m)
				r.aO[i] = times(r.aL[i], r.aR[i])
				return true
			}},
			{"a place without a gate", func(r *prover) bool {
				if s.gates == s.size() {
					return false
				}
				r.aO[s.size()-1] = far(&m)
				return true
			}},
			{"all wires", func(r *prover) bool {
				r.aL, r.aR, r.aO = farNumbers(&m, s.size()), farNumbers(&m, s.size()), farNumbers(&m, s.size())
				return true
			}},
		} {
			r := w.cheat(&m, v, k.wired)
			if fault.do(&r) && !cheated(t, fault.name, &m, w, v, r, anyAsked(&m, s)) {
				t.Fatalf("%v, %s: no relation", h, fault.name)
			}
		}
	}
}

// Systems that nothing satisfies: by any wires a relation comes out.
func TestP2203NothingSatisfies(t *testing.T) {
	t.Parallel()
	m := sample.Maker(220306)
	one, gate := circuit.Wire{Kind: api.WireOne}, circuit.Wire{Kind: api.WireLeft}
	for _, h := range append(tiny(), small()...) {
		s, k := farCase(&m, h)
		list := []system{impossible(s)}
		if h.gates > 0 {
			// Gate 0's left wire is 7 and 8.
			both := s
			both.requires = append(slices.Clone(s.requires), []term{{gate, big.NewInt(1)}, {one, negative(big.NewInt(7))}}, []term{{gate, big.NewInt(1)}, {one, negative(big.NewInt(8))}})
			list = append(list, both)
		}
		for _, s := range list {
			w := plainWorld(&m, s)
			v := w.commitments(k)
			if !cheated(t, "wires", &m, w, v, w.cheat(&m, v, k.wired), anyAsked(&m, s)) {
				t.Fatalf("%v: an assignment of a system that nothing satisfies", h)
			}
		}
	}
}

// Commitments that nobody made of these wires, or to which nobody knows openings: who takes logarithms opens them so, too.
func TestP2203OtherCommitments(t *testing.T) {
	t.Parallel()
	m := sample.Maker(220307)
	for _, h := range []shape{{1, 1, 0}, {1, 1, 2}, {1, 2, 2}, {2, 2, 1}, {3, 3, 0}, {2, 4, 1}} {
		s, k := farCase(&m, h)
		w := plainWorld(&m, s)
		for _, v := range [][]numbers{anyList(&m, sample.Lines(), h.values), make([]numbers, h.values)} {
			if cheated(t, "other commitments", &m, w, v, w.cheat(&m, v, k.wired), anyAsked(&m, s)) {
				t.Fatalf("%v: a relation of wires that hold", h)
			}
		}
	}
}

// rooted: the coefficients of the polynomial that is 0 at these places, and a multiple of it.
func rooted(k *big.Int, roots numbers) numbers {
	c := numbers{k}
	for _, root := range roots {
		next := nothing(len(c) + 1)
		for i := range c {
			next[i+1] = plus(next[i+1], c[i])
			next[i] = minus(next[i], times(root, c[i]))
		}
		c = next
	}
	return c
}

// without: all but the one in a place.
func without(list numbers, place int) numbers {
	return append(slices.Clone(list[:place]), list[place+1:]...)
}

// Gates that do not multiply, but such as all y but one take for gates that do: all that is asked behind these fits to the commitments' openings.
func TestP2203OneYTooFewIsNotEnough(t *testing.T) {
	t.Parallel()
	m := sample.Maker(220308)
	for _, h := range []shape{{0, 2, 0}, {1, 2, 1}, {2, 2, 0}, {1, 3, 0}, {0, 4, 1}, {2, 4, 0}} {
		for place := range h.begun().size() {
			s, k := farCase(&m, h)
			w, c := plainWorld(&m, s), farAsked(&m, s)
			r := w.cheat(&m, w.commitments(k), k.wired)
			for i, fault := range rooted(far(&m), without(c.ys, place)) {
				r.aO[i] = minus(r.aO[i], fault)
			}
			// All requirements are met by these wires.
			own := wired{r.aL[:h.gates], r.aR[:h.gates], r.aO[:h.gates], k.v}
			w.requires = slices.Clone(w.requires)
			for q := h.values; q < len(w.requires); q++ {
				w.requires[q] = reclosed(own, w.requires[q], new(big.Int))
			}
			v := w.commitments(k)
			r.taux = w.cheat(&m, v, own).taux
			if !cheated(t, "gates for all y but one", &m, w, v, r, c) {
				t.Fatalf("%v: gates that do not multiply", h)
			}
		}
	}
}

// reclosed: the sum with another number of the one wire.
func reclosed(a wired, sum []term, to *big.Int) []term {
	var others []term
	for _, x := range sum {
		if x.wire.Kind != api.WireOne {
			others = append(others, x)
		}
	}
	return closed(a, others, to)
}

// Requirements that are not met, but such as all z but one take for met, with a gate that does not multiply: all that is asked behind these fits to the commitments' openings.
func TestP2203OneZTooFewIsNotEnough(t *testing.T) {
	t.Parallel()
	m := sample.Maker(220309)
	for _, h := range []shape{{0, 1, 1}, {0, 1, 2}, {1, 1, 0}, {1, 1, 2}, {1, 2, 2}, {2, 2, 1}} {
		s, k := farCase(&m, h)
		for place := range len(s.requires) + 1 {
			w, c := plainWorld(&m, s), farAsked(&m, s)
			w.requires = slices.Clone(w.requires)
			faults := rooted(far(&m), without(c.zs, place)) // of the gates together, then of each requirement
			a := wired{slices.Clone(k.l), slices.Clone(k.r), slices.Clone(k.o), slices.Clone(k.v)}
			// The first gate alone is wrong: so the gates' faults come to the same at each y.
			a.o[0] = minus(times(a.l[0], a.r[0]), faults[0])
			for q := range w.requires {
				if q < h.values {
					a.v[q] = minus(a.l[q], faults[q+1])
				}
			}
			for q := h.values; q < len(w.requires); q++ {
				w.requires[q] = reclosed(a, w.requires[q], faults[q+1])
			}
			lying := k
			lying.wired = a
			v := w.commitments(lying)
			if !cheated(t, "requirements for all z but one", &m, w, v, w.cheat(&m, v, a), c) {
				t.Fatalf("%v: requirements that are not met", h)
			}
		}
	}
}

// B, Blind or Q neutral, or all of G or of H: what is free by that may be anything.
func TestP2203NeutralGenerators(t *testing.T) {
	t.Parallel()
	m := sample.Maker(220310)
	for _, h := range []shape{{0, 0, 1}, {1, 1, 1}, {1, 2, 0}} {
		for which := range 32 {
			s, k := farCase(&m, h)
			w := plainWorld(&m, s)
			for i, one := range []*numbers{&w.b, &w.blind, &w.q} {
				if which>>i&1 == 1 {
					*one = numbers{}
				}
			}
			for i, list := range [][]numbers{w.g, w.h} {
				if which>>(3+i)&1 == 1 {
					clear(list)
				}
			}
			v, x := w.commitments(k), w.grown(w.honest(k), anyAsked(&m, s))
			loosen(&m, w, &x)
			if ok, _ := extract(t, "what is free is anything", &m, sample.Lines(), w, v, x); !ok {
				t.Fatal("what is free is not free")
			}
		}
	}
}

// loosen: another scalar, wherever a tree is accepted with it all the same.
func loosen(m *sample.Maker, w world, x *aTree) {
	for range 6 {
		s := anySpot(m, w.system)
		_, _, b, branch := s.of(x)
		at, n := w.statementAt(x, s), &branch.Node
		for len(n.Kids) > 0 {
			i := m.Next() % 4
			at, n = at.folded(n.L, n.R, number(n.Kids[i].U)), &n.Kids[i].Node
		}
		if other := (aNode{A: sample.Scalar(far(m)), B: n.B}); at.accepts(other) {
			*n = other
		}
		if other := (aNode{A: n.A, B: sample.Scalar(far(m))}); at.accepts(other) {
			*n = other
		}
		if w.blind.Same(numbers{}) {
			b.TauX, b.Mu = sample.Scalar(far(m)), sample.Scalar(far(m))
		}
	}
}

// yes: the group of one element: every tree that has the arities is accepted, whatever it says.
type yes struct{}

func (a yes) Add(yes) yes                         { return a }
func (a yes) Neg() yes                            { return a }
func (a yes) Double() yes                         { return a }
func (a yes) Times(scalar.Scalar) yes             { return a }
func (a yes) Same(yes) bool                       { return true }
func (a yes) Encode() api.Bytes32                 { return api.Bytes32{} }
func (a yes) Decode(api.Bytes32) (yes, api.Errno) { return a, api.OK }

// oneElement: what Extract answers over the group of one element; it must be an assignment that holds, or a relation.
func oneElement(t *testing.T, m *sample.Maker, w world, x aTree, changes int) bool {
	t.Helper()
	given := turnTree(x, func(numbers) yes { return yes{} }, func(k scalar.Scalar) scalar.Scalar { return k })
	list := places(&given)
	for changes > 0 {
		if at := list[m.Next()%uint64(len(list))]; at.k != nil {
			*at.k = m.Limbs(far(m))
			changes--
		}
	}
	g := gens.Set[yes]{G: make([]yes, w.size()), H: make([]yes, w.size())}
	o, e := witness.Extract(g, systemOf(m, w.system), make([]yes, w.values), given)
	errno(t, "Extract", e, api.OK)
	neutral := world{system: w.system, g: make([]numbers, w.size()), h: make([]numbers, w.size())}
	return knownOf(t, "over one element", neutral, make([]numbers, w.values), o)
}

// Over the group of one element any scalars are accepted.
func TestP2203OneElement(t *testing.T) {
	t.Parallel()
	m := sample.Maker(220311)
	relations, assignments := 0, 0
	for i := range 40 {
		for _, h := range append(tiny(), small()[3]) {
			s, k := anyCase(&m, h)
			if i%5 == 0 {
				s = impossible(s)
			}
			w, c := basis(s), farAsked(&m, s)
			r := w.honest(k)
			if i%3 == 0 {
				// Wires that do not hold; all else is as an honest prover says it.
				r.aL[s.size()-1], r.aO[0] = m.Number(), m.Number()
			}
			if oneElement(t, &m, w, w.grown(r, c), i%4) {
				relations++
			} else {
				assignments++
			}
		}
	}
	if relations < 40 || assignments < 40 {
		t.Errorf("%d relations, %d assignments", relations, assignments)
	}
}

// The example of DOC.md: B = 1, Blind = 2: the commitment 5 is 1 + 2 2 and 3 + 2 1. Of a system that asks for 3 its tree tells one of them, or a relation.
func TestP2203TwoOpenings(t *testing.T) {
	m := sample.Maker(220312)
	one := func(n int64) numbers { return sample.Small(n) }
	s := shape{1, 1, 0}.begun()
	s.requires = append(s.requires, []term{{circuit.Wire{Kind: api.WireValue}, big.NewInt(1)}, {circuit.Wire{Kind: api.WireOne}, negative(big.NewInt(3))}})
	w := world{system: s, b: one(1), blind: one(2), q: one(3), g: []numbers{one(5)}, h: []numbers{one(7)}}
	v := []numbers{one(5)}
	for _, value := range []int64{3, 1, 5, 0} {
		a := wired{sample.Small(value), sample.Small(2), sample.Small(2 * value), sample.Small(value)}
		if relation := cheated(t, "the commitment 5", &m, w, v, w.cheat(&m, v, a), anyAsked(&m, s)); relation != (value != 3) {
			t.Errorf("%d: a relation %v", value, relation)
		}
	}
}
