package witness_test

// Inputs that are made up, as numbers and as what the calls take; and what answers are held against numbers by.

import (
	"math/big"
	"slices"
	"testing"

	"veil/api"
	"veil/arith"
	"veil/circuit"
	"veil/gens"
	"veil/msm"
	"veil/sample"
	"veil/scalar"
	"veil/tree"
	"veil/witness"
)

// far: a number that nothing else comes to by chance.
func far(m *sample.Maker) *big.Int { return sample.Mod(sample.Number(m.Bytes(40))) }

// many: so many numbers.
func many(count int, next func() *big.Int) numbers {
	list := make(numbers, count)
	for i := range list {
		list[i] = next()
	}
	return list
}

func someNumbers(m *sample.Maker, count int) numbers { return many(count, m.Number) }
func farNumbers(m *sample.Maker, count int) numbers {
	return many(count, func() *big.Int { return far(m) })
}

// unlike: any but 0, so many, no two the same; 1 and -1 come up often.
func unlike(m *sample.Maker, count int) numbers { return unlikeBy(m, count, 1) }

// unlikeSquares: the same, no two of the same square.
func unlikeSquares(m *sample.Maker, count int) numbers { return unlikeBy(m, count, 2) }

func unlikeBy(m *sample.Maker, count, e int) numbers {
	var list numbers
	for len(list) < count {
		n := m.Number()
		met := slices.ContainsFunc(list, func(other *big.Int) bool { return power(n, e).Cmp(power(other, e)) == 0 })
		if n.Sign() != 0 && !met {
			list = append(list, n)
		}
	}
	return list
}

// anyAsked: challenges of a tree.
func anyAsked(m *sample.Maker, s system) asked {
	return asked{unlike(m, s.size()), unlike(m, len(s.requires)+1), unlike(m, 6), unlike(m, 2), unlikeSquares(m, 4)}
}

// farAsked: the same without small numbers.
func farAsked(m *sample.Maker, s system) asked {
	return asked{farNumbers(m, s.size()), farNumbers(m, len(s.requires)+1), farNumbers(m, 6), farNumbers(m, 2), farNumbers(m, 4)}
}

// shape: so many values, gates and requirements beside those of the values.
type shape struct{ values, gates, more int }

// tiny: shapes of one place: without values, without gates, without requirements.
func tiny() []shape { return []shape{{0, 0, 0}, {0, 0, 2}, {0, 1, 0}, {0, 1, 1}, {1, 1, 0}, {1, 1, 2}} }

// small: shapes of two places.
func small() []shape {
	return []shape{{0, 2, 0}, {0, 2, 2}, {1, 2, 0}, {1, 2, 2}, {2, 2, 0}, {2, 2, 1}}
}

// middle: shapes of four places, some without a gate.
func middle() []shape { return []shape{{0, 3, 0}, {1, 3, 1}, {3, 3, 0}, {0, 4, 1}, {2, 4, 1}} }

// wires: all that are there.
func (h shape) wires() []circuit.Wire {
	list := []circuit.Wire{{Kind: api.WireOne}}
	for i := range h.gates {
		for _, kind := range []int{api.WireLeft, api.WireRight, api.WireOut} {
			list = append(list, circuit.Wire{Kind: kind, I: i})
		}
	}
	for j := range h.values {
		list = append(list, circuit.Wire{Kind: api.WireValue, I: j})
	}
	return list
}

// wiredOf: wires whose gates multiply and whose values enter.
func wiredOf(h shape, next func() *big.Int) wired {
	a := wired{l: many(h.gates, next), r: many(h.gates, next)}
	for i := range a.l {
		a.o = append(a.o, times(a.l[i], a.r[i]))
	}
	a.v = slices.Clone(a.l[:h.values])
	return a
}

// begun: the system that begins with so many values and gates.
func (h shape) begun() system {
	s := system{values: h.values, gates: h.gates}
	for j := range h.values {
		s.requires = append(s.requires, []term{{circuit.Wire{Kind: api.WireLeft, I: j}, big.NewInt(1)}, {circuit.Wire{Kind: api.WireValue, I: j}, sample.Mod(big.NewInt(-1))}})
	}
	return s
}

// anySystem: that these wires hold for, of any sums.
func anySystem(m *sample.Maker, h shape, a wired) system {
	s := h.begun()
	wires := h.wires()[1:]
	for range h.more {
		var sum []term
		for i, wire := range wires {
			if m.Next()%4 == 0 || i == 0 {
				sum = append(sum, term{wire, m.Number()})
			}
		}
		s.requires = append(s.requires, closed(a, sum, new(big.Int)))
	}
	return s
}

// farSystem: that these wires hold for, of sums of all wires, whose factors are not small.
func farSystem(m *sample.Maker, h shape, a wired) system {
	s := h.begun()
	for range h.more {
		var sum []term
		for _, wire := range h.wires()[1:] {
			sum = append(sum, term{wire, far(m)})
		}
		s.requires = append(s.requires, closed(a, sum, new(big.Int)))
	}
	return s
}

// closed: a sum with the number 1 so often that it comes to this.
func closed(a wired, sum []term, to *big.Int) []term {
	if k := minus(to, a.eval(sum)); k.Sign() != 0 {
		return append(sum, term{circuit.Wire{Kind: api.WireOne}, k})
	}
	return sum
}

// secretOf: wires with blindings and a tape.
func secretOf(h shape, a wired, next func() *big.Int) secret {
	n := h.begun().size()
	k := secret{wired: a, blinds: many(h.values, next), alpha: next(), beta: next(), rho: next(), sL: many(n, next), sR: many(n, next)}
	for e := range k.taus {
		k.taus[e] = next()
	}
	return k
}

// anyCase: a system and a prover whose wires hold for it; 0, 1 and -1 come up often.
func anyCase(m *sample.Maker, h shape) (system, secret) {
	a := wiredOf(h, m.Number)
	return anySystem(m, h, a), secretOf(h, a, m.Number)
}

// farCase: the same without small numbers.
func farCase(m *sample.Maker, h shape) (system, secret) {
	next := func() *big.Int { return far(m) }
	a := wiredOf(h, next)
	return farSystem(m, h, a), secretOf(h, a, next)
}

// anyList: what so many elements stand for.
func anyList[P msm.Group[P]](m *sample.Maker, kind sample.Kind[P], count int) []numbers {
	var list []numbers
	for range count {
		list = append(list, kind.Any(m))
	}
	return list
}

// anyWorld: any generators, some more than are looked at.
func anyWorld[P msm.Group[P]](m *sample.Maker, kind sample.Kind[P], s system) world {
	return world{
		system: s, b: kind.Any(m), blind: kind.Any(m), q: kind.Any(m),
		g: anyList(m, kind, s.size()+int(m.Next()%3)),
		h: anyList(m, kind, s.size()+int(m.Next()%3)),
	}
}

// plainWorld: of one number each, none of them 0 or small.
func plainWorld(m *sample.Maker, s system) world {
	w := world{system: s, b: numbers{far(m)}, blind: numbers{far(m)}, q: numbers{far(m)}}
	for range s.size() {
		w.g, w.h = append(w.g, numbers{far(m)}), append(w.h, numbers{far(m)})
	}
	return w
}

// basis: the world of gens.Basis.
func basis(s system) world {
	g, _ := gens.Basis(s.size())
	kind := sample.Frees()
	w := world{system: s, b: kind.To(g.B), blind: kind.To(g.Blind), q: kind.To(g.Q)}
	for i := range s.size() {
		w.g, w.h = append(w.g, kind.To(g.G[i])), append(w.h, kind.To(g.H[i]))
	}
	return w
}

// limbs: scalars that stand for numbers, by any of their limbs.
func limbs(m *sample.Maker, ns numbers) []scalar.Scalar {
	list := make([]scalar.Scalar, len(ns))
	for i, n := range ns {
		list[i] = m.Limbs(n)
	}
	return list
}

// elements: that stand for numbers, by any of their looks.
func elements[P msm.Group[P]](m *sample.Maker, kind sample.Kind[P], list []numbers) []P {
	var out []P
	for _, ns := range list {
		out = append(out, kind.Of(m, ns))
	}
	return out
}

// systemOf: built by calls of package circuit; its factors by any limbs.
func systemOf(m *sample.Maker, s system) *circuit.System {
	out, _ := circuit.New(s.values)
	for range s.gates - s.values {
		out.Gate()
	}
	for _, r := range s.requires[s.values:] {
		var x circuit.Lin
		for _, t := range r {
			x = append(x, circuit.Term{Wire: t.wire, K: m.Limbs(t.k)})
		}
		out.Require(x)
	}
	return out
}

func setOf[P msm.Group[P]](m *sample.Maker, kind sample.Kind[P], w world) gens.Set[P] {
	return gens.Set[P]{B: kind.Of(m, w.b), Blind: kind.Of(m, w.blind), Q: kind.Of(m, w.q), G: elements(m, kind, w.g), H: elements(m, kind, w.h)}
}

func assignmentOf(m *sample.Maker, a wired) circuit.Assignment {
	return circuit.Assignment{L: limbs(m, a.l), R: limbs(m, a.r), O: limbs(m, a.o), V: limbs(m, a.v)}
}

func tapeOf(m *sample.Maker, k secret) arith.Tape {
	return arith.Tape{
		Alpha: m.Limbs(k.alpha), Beta: m.Limbs(k.beta), Rho: m.Limbs(k.rho),
		Tau1: m.Limbs(k.taus[1]), Tau3: m.Limbs(k.taus[3]), Tau4: m.Limbs(k.taus[4]), Tau5: m.Limbs(k.taus[5]), Tau6: m.Limbs(k.taus[6]),
		SL: limbs(m, k.sL), SR: limbs(m, k.sR),
	}
}

func challengesOf(m *sample.Maker, c asked) tree.Challenges {
	return tree.Challenges{Ys: limbs(m, c.ys), Zs: limbs(m, c.zs), Xs: limbs(m, c.xs), Ws: limbs(m, c.ws), Us: limbs(m, c.us)}
}

// turnNode: the same node by other elements and scalars.
func turnNode[P, Q any](n tree.Node[P], element func(P) Q, k func(scalar.Scalar) scalar.Scalar) tree.Node[Q] {
	out := tree.Node[Q]{A: k(n.A), B: k(n.B), L: element(n.L), R: element(n.R)}
	for _, kid := range n.Kids {
		out.Kids = append(out.Kids, tree.Kid[Q]{U: k(kid.U), Node: turnNode(kid.Node, element, k)})
	}
	return out
}

// turnTree: the same tree by other elements and scalars.
func turnTree[P, Q any](t witness.Tree[P], element func(P) Q, k func(scalar.Scalar) scalar.Scalar) witness.Tree[Q] {
	out := witness.Tree[Q]{AI: element(t.AI), AO: element(t.AO), S: element(t.S)}
	for _, y := range t.Ys {
		outY := witness.Y[Q]{Y: k(y.Y)}
		for _, z := range y.Zs {
			outZ := witness.Z[Q]{Z: k(z.Z), T1: element(z.T1), T3: element(z.T3), T4: element(z.T4), T5: element(z.T5), T6: element(z.T6)}
			for _, x := range z.Xs {
				outX := witness.X[Q]{X: k(x.X), TauX: k(x.TauX), Mu: k(x.Mu), That: k(x.That)}
				for _, w := range x.Ws {
					outX.Ws = append(outX.Ws, tree.W[Q]{W: k(w.W), Node: turnNode(w.Node, element, k)})
				}
				outZ.Xs = append(outZ.Xs, outX)
			}
			outY.Zs = append(outY.Zs, outZ)
		}
		out.Ys = append(out.Ys, outY)
	}
	return out
}

// treeOf: a tree that stands for numbers, by any limbs and looks.
func treeOf[P msm.Group[P]](m *sample.Maker, kind sample.Kind[P], t aTree) witness.Tree[P] {
	return turnTree(t, func(ns numbers) P { return kind.Of(m, ns) }, func(k scalar.Scalar) scalar.Scalar { return m.Limbs(number(k)) })
}

// copied: a tree by memory of its own, but for its elements.
func copied[P any](t witness.Tree[P]) witness.Tree[P] {
	return turnTree(t, func(a P) P { return a }, func(k scalar.Scalar) scalar.Scalar { return k })
}

// place: where something stands in a tree.
type place[P any] struct {
	name   string
	k      *scalar.Scalar // a scalar,
	e      *P             // or an element
	counts bool
}

// nodePlaces: all of a node.
func nodePlaces[P any](n *tree.Node[P]) []place[P] {
	leaf := len(n.Kids) == 0
	list := []place[P]{{"A", &n.A, nil, leaf}, {"B", &n.B, nil, leaf}, {"L", nil, &n.L, !leaf}, {"R", nil, &n.R, !leaf}}
	for i := range n.Kids {
		list = append(list, place[P]{"u", &n.Kids[i].U, nil, true})
		list = append(list, nodePlaces(&n.Kids[i].Node)...)
	}
	return list
}

// places: all of a tree.
func places[P any](t *witness.Tree[P]) []place[P] {
	list := []place[P]{{"AI", nil, &t.AI, true}, {"AO", nil, &t.AO, true}, {"S", nil, &t.S, true}}
	for i := range t.Ys {
		y := &t.Ys[i]
		list = append(list, place[P]{"y", &y.Y, nil, true})
		for i := range y.Zs {
			z := &y.Zs[i]
			list = append(list, place[P]{"z", &z.Z, nil, true})
			for e, element := range []*P{&z.T1, &z.T3, &z.T4, &z.T5, &z.T6} {
				list = append(list, place[P]{[]string{"T1", "T3", "T4", "T5", "T6"}[e], nil, element, true})
			}
			for i := range z.Xs {
				x := &z.Xs[i]
				list = append(list, place[P]{"x", &x.X, nil, true}, place[P]{"taux", &x.TauX, nil, true}, place[P]{"mu", &x.Mu, nil, true}, place[P]{"that", &x.That, nil, true})
				for i := range x.Ws {
					list = append(list, place[P]{"w", &x.Ws[i].W, nil, true})
					list = append(list, nodePlaces(&x.Ws[i].Node)...)
				}
			}
		}
	}
	return list
}

// isChallenge: of a place's name.
func isChallenge(name string) bool { return slices.Contains([]string{"y", "z", "x", "w", "u"}, name) }

// isTree: a tree must stand for this one, its scalars by their least limbs.
func isTree[P msm.Group[P]](t *testing.T, what string, kind sample.Kind[P], got witness.Tree[P], want aTree) {
	t.Helper()
	a, b := places(&got), places(&want)
	if len(a) != len(b) {
		t.Fatalf("%s over %s: %d places, want %d", what, kind.Name, len(a), len(b))
	}
	for i := range a {
		if a[i].name != b[i].name || a[i].k != nil && *a[i].k != *b[i].k || a[i].e != nil && !kind.Is(*a[i].e, *b[i].e) {
			t.Fatalf("%s over %s: another %s in place %d", what, kind.Name, a[i].name, i)
		}
	}
}

// are: elements must stand for these numbers.
func are[P msm.Group[P]](t *testing.T, what string, kind sample.Kind[P], got []P, want ...numbers) {
	t.Helper()
	if len(got) != len(want) {
		t.Fatalf("%s, over %s: %d elements, want %d", what, kind.Name, len(got), len(want))
	}
	for i, p := range got {
		if !kind.Is(p, want[i]) {
			t.Fatalf("%s, over %s: element %d is %v, want %v", what, kind.Name, i, kind.To(p), want[i])
		}
	}
}

// told: scalars must be these numbers, by their least limbs.
func told(t *testing.T, what string, got []scalar.Scalar, want numbers) {
	t.Helper()
	if len(got) != len(want) {
		t.Fatalf("%s: %d scalars, want %d", what, len(got), len(want))
	}
	for i, k := range got {
		if k != sample.Scalar(want[i]) {
			t.Fatalf("%s: place %d is %v, want %v", what, i, k, sample.Scalar(want[i]))
		}
	}
}

// isLeast: all by their least limbs?
func isLeast(list []scalar.Scalar) bool {
	return !slices.ContainsFunc(list, func(k scalar.Scalar) bool { return k != k.Least() })
}

// numbersOf: of scalars.
func numbersOf(list []scalar.Scalar) numbers {
	var ns numbers
	for _, k := range list {
		ns = append(ns, number(k))
	}
	return ns
}

// errno: an error must be this one.
func errno(t *testing.T, what string, got, want api.Errno) {
	t.Helper()
	if got != want {
		t.Errorf("%s: error %d, want %d", what, got, want)
	}
}

// zeros: 0 by all its limbs.
func zeros() []scalar.Scalar { return sample.Scalars(new(big.Int)) }

// line: a small number's element.
func line(n int64) msm.Line { return msm.Line{K: num(n)} }

// num: a small number.
func num(n int64) scalar.Scalar { return sample.Scalar(big.NewInt(n)) }

func nums(ns ...int64) []scalar.Scalar {
	list := make([]scalar.Scalar, len(ns))
	for i, n := range ns {
		list[i] = num(n)
	}
	return list
}

// easy: challenges 1, 2, 3, ..
func easy(s *circuit.System) tree.Challenges {
	c := tree.Challenges{Xs: nums(1, 2, 3, 4, 5, 6), Ws: nums(1, 2), Us: nums(1, 2, 3, 4)}
	for i := range arith.Size(s) {
		c.Ys = append(c.Ys, num(int64(i+2)))
	}
	for i := range s.Requires() + 1 {
		c.Zs = append(c.Zs, num(int64(i+1)))
	}
	return c
}
