package tree_test

// Inputs that are made up, as numbers and as what the calls take; and what answers are held against numbers by.

import (
	"math/big"
	"slices"
	"testing"

	"veil/api"
	"veil/gens"
	"veil/msm"
	"veil/ranges"
	"veil/sample"
	"veil/scalar"
	"veil/tree"
)

// someNumbers: any, so many; 0, 1 and -1 come up often.
func someNumbers(m *sample.Maker, count int) numbers {
	list := make(numbers, count)
	for i := range list {
		list[i] = m.Number()
	}
	return list
}

// far: a number that nothing else comes to by chance.
func far(m *sample.Maker) *big.Int { return sample.Mod(sample.Number(m.Bytes(40))) }

func farNumbers(m *sample.Maker, count int) numbers {
	list := make(numbers, count)
	for i := range list {
		list[i] = far(m)
	}
	return list
}

// unlike: any but 0, so many, no two the same; 1 and -1 come up often.
func unlike(m *sample.Maker, count int) numbers { return unlikeBy(m, count, 1) }

// unlikeSquares: the same, no two of the same square.
func unlikeSquares(m *sample.Maker, count int) numbers { return unlikeBy(m, count, 2) }

func unlikeBy(m *sample.Maker, count, e int) numbers {
	var list numbers
	for len(list) < count {
		n := m.Number()
		met := slices.ContainsFunc(list, func(other *big.Int) bool { return power(n, e).Cmp(power(other, e)) == 0 })
		if n.Sign() != 0 && !met {
			list = append(list, n)
		}
	}
	return list
}

// anyAsked: challenges of a tree.
func anyAsked(m *sample.Maker, p api.Params) asked {
	return asked{unlike(m, p.Size()), unlike(m, p.Count+2), unlike(m, 3), unlike(m, 2), unlikeSquares(m, 4)}
}

// farAsked: the same without small numbers.
func farAsked(m *sample.Maker, p api.Params) asked {
	return asked{farNumbers(m, p.Size()), farNumbers(m, p.Count+2), farNumbers(m, 3), farNumbers(m, 2), farNumbers(m, 4)}
}

// anyList: what so many elements stand for.
func anyList[P msm.Group[P]](m *sample.Maker, kind sample.Kind[P], count int) []numbers {
	var list []numbers
	for range count {
		list = append(list, kind.Any(m))
	}
	return list
}

// anyWorld: any generators, some more than are looked at.
func anyWorld[P msm.Group[P]](m *sample.Maker, kind sample.Kind[P], p api.Params) world {
	return world{
		p: p, b: kind.Any(m), blind: kind.Any(m), q: kind.Any(m),
		g: anyList(m, kind, p.Size()+int(m.Next()%3)),
		h: anyList(m, kind, p.Size()+int(m.Next()%3)),
	}
}

// plainWorld: of one number each, none of them 0 or small.
func plainWorld(m *sample.Maker, p api.Params) world {
	w := world{p: p, b: numbers{far(m)}, blind: numbers{far(m)}, q: numbers{far(m)}}
	for range p.Size() {
		w.g, w.h = append(w.g, numbers{far(m)}), append(w.h, numbers{far(m)})
	}
	return w
}

// basis: the world of gens.Basis.
func basis(p api.Params) world {
	g, _ := gens.Basis(p.Size())
	kind := sample.Frees()
	w := world{p: p, b: kind.To(g.B), blind: kind.To(g.Blind), q: kind.To(g.Q)}
	for i := range p.Size() {
		w.g, w.h = append(w.g, kind.To(g.G[i])), append(w.h, kind.To(g.H[i]))
	}
	return w
}

// anyValue: below 2^n; the least and the greatest come up often.
func anyValue(m *sample.Maker, p api.Params) uint64 {
	top := uint64(1)<<p.Bits - 1
	switch m.Next() % 4 {
	case 0:
		return 0
	case 1:
		return top
	}
	return m.Next() & top
}

// anySecret: that a prover may have.
func anySecret(m *sample.Maker, p api.Params) secret {
	k := secret{alpha: m.Number(), rho: m.Number(), tau1: m.Number(), tau2: m.Number(), sL: someNumbers(m, p.Size()), sR: someNumbers(m, p.Size()), blinds: someNumbers(m, p.Count)}
	for range p.Count {
		k.vs = append(k.vs, anyValue(m, p))
	}
	return k
}

// farSecret: the same without small numbers.
func farSecret(m *sample.Maker, p api.Params) secret {
	k := anySecret(m, p)
	k.alpha, k.rho, k.tau1, k.tau2 = far(m), far(m), far(m), far(m)
	k.sL, k.sR, k.blinds = farNumbers(m, p.Size()), farNumbers(m, p.Size()), farNumbers(m, p.Count)
	return k
}

// limbs: scalars that stand for numbers, by any of their limbs.
func limbs(m *sample.Maker, ns numbers) []scalar.Scalar {
	list := make([]scalar.Scalar, len(ns))
	for i, n := range ns {
		list[i] = m.Limbs(n)
	}
	return list
}

// elements: that stand for numbers, by any of their looks.
func elements[P msm.Group[P]](m *sample.Maker, kind sample.Kind[P], list []numbers) []P {
	var out []P
	for _, ns := range list {
		out = append(out, kind.Of(m, ns))
	}
	return out
}

func setOf[P msm.Group[P]](m *sample.Maker, kind sample.Kind[P], w world) gens.Set[P] {
	return gens.Set[P]{B: kind.Of(m, w.b), Blind: kind.Of(m, w.blind), Q: kind.Of(m, w.q), G: elements(m, kind, w.g), H: elements(m, kind, w.h)}
}

func openingsOf(m *sample.Maker, k secret) []ranges.Opening {
	var list []ranges.Opening
	for j, v := range k.vs {
		list = append(list, ranges.Opening{V: v, Blind: m.Limbs(k.blinds[j])})
	}
	return list
}

func tapeOf(m *sample.Maker, k secret) ranges.Tape {
	return ranges.Tape{Alpha: m.Limbs(k.alpha), Rho: m.Limbs(k.rho), Tau1: m.Limbs(k.tau1), Tau2: m.Limbs(k.tau2), SL: limbs(m, k.sL), SR: limbs(m, k.sR)}
}

func challengesOf(m *sample.Maker, c asked) tree.Challenges {
	return tree.Challenges{Ys: limbs(m, c.ys), Zs: limbs(m, c.zs), Xs: limbs(m, c.xs), Ws: limbs(m, c.ws), Us: limbs(m, c.us)}
}

// turnNode: the same node by other elements and scalars.
func turnNode[P, Q any](n tree.Node[P], element func(P) Q, k func(scalar.Scalar) scalar.Scalar) tree.Node[Q] {
	out := tree.Node[Q]{A: k(n.A), B: k(n.B), L: element(n.L), R: element(n.R)}
	for _, kid := range n.Kids {
		out.Kids = append(out.Kids, tree.Kid[Q]{U: k(kid.U), Node: turnNode(kid.Node, element, k)})
	}
	return out
}

// turnTree: the same tree by other elements and scalars.
func turnTree[P, Q any](t tree.Tree[P], element func(P) Q, k func(scalar.Scalar) scalar.Scalar) tree.Tree[Q] {
	out := tree.Tree[Q]{A: element(t.A), S: element(t.S)}
	for _, y := range t.Ys {
		outY := tree.Y[Q]{Y: k(y.Y)}
		for _, z := range y.Zs {
			outZ := tree.Z[Q]{Z: k(z.Z), T1: element(z.T1), T2: element(z.T2)}
			for _, x := range z.Xs {
				outX := tree.X[Q]{X: k(x.X), TauX: k(x.TauX), Mu: k(x.Mu), That: k(x.That)}
				for _, w := range x.Ws {
					outX.Ws = append(outX.Ws, tree.W[Q]{W: k(w.W), Node: turnNode(w.Node, element, k)})
				}
				outZ.Xs = append(outZ.Xs, outX)
			}
			outY.Zs = append(outY.Zs, outZ)
		}
		out.Ys = append(out.Ys, outY)
	}
	return out
}

// treeOf: a tree that stands for numbers, by any limbs and looks.
func treeOf[P msm.Group[P]](m *sample.Maker, kind sample.Kind[P], t aTree) tree.Tree[P] {
	return turnTree(t, func(ns numbers) P { return kind.Of(m, ns) }, func(k scalar.Scalar) scalar.Scalar { return m.Limbs(number(k)) })
}

// nodeOf: the same of a node.
func nodeOf[P msm.Group[P]](m *sample.Maker, kind sample.Kind[P], n aNode) tree.Node[P] {
	return turnNode(n, func(ns numbers) P { return kind.Of(m, ns) }, func(k scalar.Scalar) scalar.Scalar { return m.Limbs(number(k)) })
}

// copied: a tree by memory of its own, but for its elements.
func copied[P any](t tree.Tree[P]) tree.Tree[P] {
	return turnTree(t, func(a P) P { return a }, func(k scalar.Scalar) scalar.Scalar { return k })
}

// place: where something stands in a tree.
type place[P any] struct {
	name   string
	k      *scalar.Scalar // a scalar,
	e      *P             // or an element
	counts bool
}

// nodePlaces: all of a node.
func nodePlaces[P any](n *tree.Node[P]) []place[P] {
	leaf := len(n.Kids) == 0
	list := []place[P]{{"A", &n.A, nil, leaf}, {"B", &n.B, nil, leaf}, {"L", nil, &n.L, !leaf}, {"R", nil, &n.R, !leaf}}
	for i := range n.Kids {
		list = append(list, place[P]{"u", &n.Kids[i].U, nil, true})
		list = append(list, nodePlaces(&n.Kids[i].Node)...)
	}
	return list
}

// places: all of a tree.
func places[P any](t *tree.Tree[P]) []place[P] {
	list := []place[P]{{"A", nil, &t.A, true}, {"S", nil, &t.S, true}}
	for i := range t.Ys {
		y := &t.Ys[i]
		list = append(list, place[P]{"y", &y.Y, nil, true})
		for i := range y.Zs {
			z := &y.Zs[i]
			list = append(list, place[P]{"z", &z.Z, nil, true}, place[P]{"T1", nil, &z.T1, true}, place[P]{"T2", nil, &z.T2, true})
			for i := range z.Xs {
				x := &z.Xs[i]
				list = append(list, place[P]{"x", &x.X, nil, true}, place[P]{"taux", &x.TauX, nil, true}, place[P]{"mu", &x.Mu, nil, true}, place[P]{"that", &x.That, nil, true})
				for i := range x.Ws {
					list = append(list, place[P]{"w", &x.Ws[i].W, nil, true})
					list = append(list, nodePlaces(&x.Ws[i].Node)...)
				}
			}
		}
	}
	return list
}

// isTree: a tree must stand for this one, its scalars by their least limbs.
func isTree[P msm.Group[P]](t *testing.T, what string, kind sample.Kind[P], got tree.Tree[P], want aTree) {
	t.Helper()
	a, b := places(&got), places(&want)
	if len(a) != len(b) {
		t.Fatalf("%s over %s: %d places, want %d", what, kind.Name, len(a), len(b))
	}
	for i := range a {
		if a[i].name != b[i].name || a[i].k != nil && *a[i].k != *b[i].k || a[i].e != nil && !kind.Is(*a[i].e, *b[i].e) {
			t.Fatalf("%s over %s: another %s in place %d", what, kind.Name, a[i].name, i)
		}
	}
}

// are: elements must stand for these numbers.
func are[P msm.Group[P]](t *testing.T, what string, kind sample.Kind[P], got []P, want ...numbers) {
	t.Helper()
	if len(got) != len(want) {
		t.Fatalf("%s, over %s: %d elements, want %d", what, kind.Name, len(got), len(want))
	}
	for i, p := range got {
		if !kind.Is(p, want[i]) {
			t.Fatalf("%s, over %s: element %d is %v, want %v", what, kind.Name, i, kind.To(p), want[i])
		}
	}
}

// isLeast: all by their least limbs?
func isLeast(list []scalar.Scalar) bool {
	return !slices.ContainsFunc(list, func(k scalar.Scalar) bool { return k != k.Least() })
}

// isRelation: scalars must be a relation of elements that stand for these.
func isRelation(t *testing.T, what string, relation []scalar.Scalar, of []numbers) {
	t.Helper()
	if len(relation) != len(of) || !isLeast(relation) {
		t.Fatalf("%s: %v for %d generators", what, relation, len(of))
	}
	ks := numbersOf(relation)
	if ks.Same(numbers{}) || !summed(ks, of).Same(numbers{}) {
		t.Fatalf("%s: %v is no relation", what, relation)
	}
}

// numbersOf: of scalars.
func numbersOf(list []scalar.Scalar) numbers {
	var ns numbers
	for _, k := range list {
		ns = append(ns, number(k))
	}
	return ns
}

// errno: an error must be this one.
func errno(t *testing.T, what string, got, want api.Errno) {
	t.Helper()
	if got != want {
		t.Errorf("%s: error %d, want %d", what, got, want)
	}
}

// zeros: 0 by all its limbs.
func zeros() []scalar.Scalar { return sample.Scalars(new(big.Int)) }

// allParams: all that are allowed, up to a size.
func allParams(most int) []api.Params {
	var list []api.Params
	for bits := 1; bits <= api.MaxBits; bits *= 2 {
		for count := 1; count <= api.MaxCount; count *= 2 {
			if bits*count <= most {
				list = append(list, api.Params{Bits: bits, Count: count})
			}
		}
	}
	return list
}

// line: a small number's element.
func line(n int64) msm.Line { return msm.Line{K: num(n)} }

// num: a small number.
func num(n int64) scalar.Scalar { return sample.Scalar(big.NewInt(n)) }

func nums(ns ...int64) []scalar.Scalar {
	list := make([]scalar.Scalar, len(ns))
	for i, n := range ns {
		list[i] = num(n)
	}
	return list
}

// small: challenges 1, 2, 3, ..
func small(p api.Params) tree.Challenges {
	c := tree.Challenges{Xs: nums(1, 2, 3), Ws: nums(1, 2), Us: nums(1, 2, 3, 4)}
	for i := range p.Size() {
		c.Ys = append(c.Ys, num(int64(i+2)))
	}
	for i := range p.Count + 2 {
		c.Zs = append(c.Zs, num(int64(i+1)))
	}
	return c
}

// smallAsked: the same as numbers.
func smallAsked(p api.Params) asked {
	c := small(p)
	return asked{numbersOf(c.Ys), numbersOf(c.Zs), numbersOf(c.Xs), numbersOf(c.Ws), numbersOf(c.Us)}
}

// zeroSecret: values and a tape of zeros.
func zeroSecret(p api.Params) secret {
	zero := new(big.Int)
	return secret{make([]uint64, p.Count), nothing(p.Count), zero, zero, zero, zero, nothing(p.Size()), nothing(p.Size())}
}
