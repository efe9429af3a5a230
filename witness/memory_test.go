package witness_test

// The document's rules: what is handed in is left alone and not kept, what is handed out is new; types that are no group.

import (
	"bytes"
	"slices"
	"testing"

	"veil/api"
	"veil/arith"
	"veil/circuit"
	"veil/gens"
	"veil/msm"
	"veil/sample"
	"veil/scalar"
	"veil/tree"
	"veil/witness"
)

// room: all that calls are handed, over Free, with others behind all of it.
type room struct {
	set    gens.Set[msm.Free]
	s      *circuit.System
	a      circuit.Assignment
	blinds []scalar.Scalar
	tape   arith.Tape
	c      tree.Challenges
	v      []msm.Free
	x      witness.Tree[msm.Free]
	maker  sample.Maker
}

// behindIt: the list with others behind it.
func behindIt[T any](list []T, others ...T) []T {
	return append(append(make([]T, 0, len(list)+len(others)), list...), others...)[:len(list)]
}

func (r *room) scalars(count int) []scalar.Scalar {
	list := make([]scalar.Scalar, count+2)
	for i := range list {
		list[i] = sample.Words(sample.Number(r.maker.Bytes(32)))
	}
	return list[:count]
}

// element: of any scalars, with two behind them.
func (r *room) element() msm.Free { return msm.Free{K: r.scalars(3)} }

func (r *room) elements(count int) []msm.Free {
	var list []msm.Free
	for range count + 2 {
		list = append(list, r.element())
	}
	return list[:count:len(list)]
}

// roomy: the same element by other limbs, with two scalars behind it.
func (r *room) roomy(a msm.Free) msm.Free {
	var list []scalar.Scalar
	for _, k := range a.K {
		list = append(list, r.maker.Limbs(number(k)))
	}
	return msm.Free{K: behindIt(list, r.scalars(2)...)}
}

func (r *room) roomyNode(n tree.Node[msm.Free]) tree.Node[msm.Free] {
	out := tree.Node[msm.Free]{A: n.A, B: n.B, L: r.roomy(n.L), R: r.roomy(n.R)}
	for _, kid := range n.Kids {
		out.Kids = append(out.Kids, tree.Kid[msm.Free]{U: kid.U, Node: r.roomyNode(kid.Node)})
	}
	if len(out.Kids) > 0 {
		out.Kids = behindIt(out.Kids, tree.Kid[msm.Free]{U: num(5)}, tree.Kid[msm.Free]{Node: tree.Node[msm.Free]{L: r.element()}})
	}
	return out
}

// roomyTree: the same tree, with others behind each list.
func (r *room) roomyTree(t witness.Tree[msm.Free]) witness.Tree[msm.Free] {
	out := turnTree(t, r.roomy, func(k scalar.Scalar) scalar.Scalar { return r.maker.Limbs(number(k)) })
	for i := range out.Ys {
		y := &out.Ys[i]
		for i := range y.Zs {
			z := &y.Zs[i]
			for i := range z.Xs {
				x := &z.Xs[i]
				for i := range x.Ws {
					x.Ws[i].Node = r.roomyNode(x.Ws[i].Node)
				}
				x.Ws = behindIt(x.Ws, tree.W[msm.Free]{W: num(3)})
			}
			z.Xs = behindIt(z.Xs, witness.X[msm.Free]{X: num(4)})
		}
		y.Zs = behindIt(y.Zs, witness.Z[msm.Free]{T1: r.element()})
	}
	out.Ys = behindIt(out.Ys, witness.Y[msm.Free]{Y: num(6)})
	return out
}

// newRoom: the same each time. In a related one Q is neutral, G and H are all the same, and one leaf of the tree goes its own way by that: so a relation comes out.
func newRoom(t *testing.T, related bool) *room {
	t.Helper()
	r := &room{maker: 22}
	r.set = gens.Set[msm.Free]{B: r.element(), Blind: r.element(), Q: r.element(), G: r.elements(2), H: r.elements(2)}
	if related {
		r.set.Q = msm.Free{}
		for _, list := range [][]msm.Free{r.set.G, r.set.H} {
			for i := range list {
				list[i] = msm.Free{K: slices.Clone(r.set.G[0].K)}
			}
		}
	}
	r.s, _ = circuit.New(1)
	l, _, o, _ := r.s.Gate()
	left, right := r.scalars(2), r.scalars(2)
	r.a = circuit.Assignment{L: left, R: right, O: r.scalars(2), V: behindIt(left[:1], r.scalars(2)...)}
	for i := range left {
		r.a.O[i] = left[i].Mul(right[i])
	}
	sum := circuit.Of(l).Add(circuit.Of(o)).Times(num(3))
	is, _ := r.s.Eval(r.a, sum)
	r.s.Require(sum.Sub(circuit.Const(is)))
	k := r.scalars(8)
	r.blinds = r.scalars(1)
	r.tape = arith.Tape{Alpha: k[0], Beta: k[1], Rho: k[2], Tau1: k[3], Tau3: k[4], Tau4: k[5], Tau5: k[6], Tau6: k[7], SL: r.scalars(2), SR: r.scalars(2)}
	r.c = tree.Challenges{Ys: r.scalars(2), Zs: r.scalars(3), Xs: r.scalars(6), Ws: r.scalars(2), Us: r.scalars(4)}
	v, x, e := witness.Grow(r.set, r.s, r.a, r.blinds, r.tape, r.c)
	errno(t, "Grow", e, api.OK)
	if related {
		// The folded generators are u + 1 / u and u + 1 / (u y) times the same.
		kid := &x.Ys[1].Zs[2].Xs[4].Ws[1].Node.Kids[2]
		u, y := kid.U, x.Ys[1].Y
		ofG, ofH := u.Add(u.Invert()), u.Add(u.Mul(y).Invert())
		kid.Node.A, kid.Node.B = kid.Node.A.Add(ofH), kid.Node.B.Sub(ofG)
	}
	r.v, r.x = behindIt(v, r.element()), r.roomyTree(x)
	return r
}

func whole[T any](list []T) []T { return list[:cap(list)] }

// state: all scalars of a room, the room behind them too, as one list.
func (r *room) state() []scalar.Scalar {
	list := slices.Concat(whole(r.tape.SL), whole(r.tape.SR), whole(r.c.Ys), whole(r.c.Zs), whole(r.c.Xs), whole(r.c.Ws), whole(r.c.Us),
		whole(r.a.L), whole(r.a.R), whole(r.a.O), whole(r.a.V), whole(r.blinds))
	for _, a := range slices.Concat([]msm.Free{r.set.B, r.set.Blind, r.set.Q}, whole(r.set.G), whole(r.set.H), whole(r.v)) {
		list = append(list, whole(a.K)...)
	}
	return append(list, treeState(r.x)...)
}

func nodeState(n tree.Node[msm.Free]) []scalar.Scalar {
	list := slices.Concat([]scalar.Scalar{n.A, n.B}, whole(n.L.K), whole(n.R.K))
	for _, kid := range whole(n.Kids) {
		list = append(append(list, kid.U), nodeState(kid.Node)...)
	}
	return list
}

func treeState(t witness.Tree[msm.Free]) []scalar.Scalar {
	list := slices.Concat(whole(t.AI.K), whole(t.AO.K), whole(t.S.K))
	for _, y := range whole(t.Ys) {
		list = append(list, y.Y)
		for _, z := range whole(y.Zs) {
			list = slices.Concat(list, []scalar.Scalar{z.Z}, whole(z.T1.K), whole(z.T3.K), whole(z.T4.K), whole(z.T5.K), whole(z.T6.K))
			for _, x := range whole(z.Xs) {
				list = append(list, x.X, x.TauX, x.Mu, x.That)
				for _, w := range whole(x.Ws) {
					list = append(append(list, w.W), nodeState(w.Node)...)
				}
			}
		}
	}
	return list
}

// answers: all that the calls hand out, of this room.
type answers struct {
	v []msm.Free
	x witness.Tree[msm.Free]
	o witness.Outcome
}

func (r *room) answer(t *testing.T, related bool) answers {
	t.Helper()
	var a answers
	var e api.Errno
	a.v, a.x, e = witness.Grow(r.set, r.s, r.a, r.blinds, r.tape, r.c)
	errno(t, "Grow", e, api.OK)
	errno(t, "Check", witness.Check(r.set, r.s, r.v, r.x), api.OK)
	a.o, e = witness.Extract(r.set, r.s, r.v, r.x)
	errno(t, "Extract", e, api.OK)
	if related != (len(a.o.Relation) == 7) || related == (len(a.o.Blinds) == 1) {
		t.Errorf("Extract: %v", a.o)
	}
	return a
}

// scalars: the lists of an outcome.
func (a answers) scalars() [][]scalar.Scalar {
	return [][]scalar.Scalar{a.o.Assignment.L, a.o.Assignment.R, a.o.Assignment.O, a.o.Assignment.V, a.o.Blinds, a.o.Relation}
}

// state: of answers, as one list; without the room behind them, which is free.
func (a answers) state() []scalar.Scalar {
	list := slices.Concat(a.scalars()...)
	for _, v := range a.v {
		list = append(list, v.K...)
	}
	own := turnTree(a.x, func(a msm.Free) msm.Free { return msm.Free{K: slices.Clip(slices.Clone(a.K))} }, func(k scalar.Scalar) scalar.Scalar { return k })
	for _, at := range places(&own) {
		if at.k != nil {
			list = append(list, *at.k)
		} else {
			list = append(list, at.e.K...)
		}
	}
	return list
}

func fill(list []scalar.Scalar) {
	for i := range whole(list) {
		whole(list)[i] = scalar.Int(888)
	}
}

func spoilNode(n tree.Node[msm.Free]) {
	fill(n.L.K)
	fill(n.R.K)
	for _, kid := range whole(n.Kids) {
		spoilNode(kid.Node)
	}
	for i := range whole(n.Kids) {
		whole(n.Kids)[i] = tree.Kid[msm.Free]{U: num(8)}
	}
}

func spoilTree(t witness.Tree[msm.Free]) {
	for _, a := range []msm.Free{t.AI, t.AO, t.S} {
		fill(a.K)
	}
	for _, y := range whole(t.Ys) {
		for _, z := range whole(y.Zs) {
			for _, a := range []msm.Free{z.T1, z.T3, z.T4, z.T5, z.T6} {
				fill(a.K)
			}
			for _, x := range whole(z.Xs) {
				for _, w := range whole(x.Ws) {
					spoilNode(w.Node)
				}
				clear(whole(x.Ws))
			}
			clear(whole(z.Xs))
		}
		clear(whole(y.Zs))
	}
	clear(whole(t.Ys))
}

// spoil: other things everywhere, the room behind them too.
func (a answers) spoil() {
	for _, list := range a.scalars() {
		fill(list)
	}
	for _, v := range a.v {
		fill(v.K)
	}
	clear(whole(a.v))
	spoilTree(a.x)
}

// spoil: other things everywhere in what was handed in.
func (r *room) spoil() {
	for _, list := range [][]scalar.Scalar{r.tape.SL, r.tape.SR, r.c.Ys, r.c.Zs, r.c.Xs, r.c.Ws, r.c.Us, r.a.L, r.a.R, r.a.O, r.a.V, r.blinds} {
		fill(list)
	}
	for _, list := range [][]msm.Free{{r.set.B, r.set.Blind, r.set.Q}, r.set.G, r.set.H, r.v} {
		for _, a := range whole(list) {
			fill(a.K)
		}
	}
	r.s.Require(circuit.Const(num(1)))
	r.s.Gate()
	spoilTree(r.x)
}

func TestP3HandedInIsLeft(t *testing.T) {
	for _, related := range []bool{false, true} {
		r, was := newRoom(t, related), newRoom(t, related).state()
		system := r.s.Encode()
		a := r.answer(t, related)
		if !slices.Equal(r.state(), was) || !bytes.Equal(r.s.Encode(), system) {
			t.Fatal("a call has changed what was handed in")
		}
		a.spoil()
		if !slices.Equal(r.state(), was) || !bytes.Equal(r.s.Encode(), system) {
			t.Fatal("what is written into an answer is seen in what was handed in")
		}
	}
}

// With an error, too, all is as it was.
func TestP3HandedInIsLeftBesideErrors(t *testing.T) {
	r, was := newRoom(t, false), newRoom(t, false).state()
	system := r.s.Encode()
	great, more := r.s.Clone(), r.s.Clone()
	for great.Gates() < 17 {
		great.Gate()
	}
	more.Require(nil)
	unmet := r.s.Clone()
	unmet.Require(circuit.Const(num(1)))
	for _, s := range []*circuit.System{nil, great, more, unmet} {
		_, _, e := witness.Grow(r.set, s, r.a, r.blinds, r.tape, r.c)
		o, f := witness.Extract(r.set, s, r.v, r.x)
		if e == api.OK || f == api.OK || !empty(o) {
			t.Error("no error")
		}
	}
	errno(t, "Check of another commitment", witness.Check(r.set, r.s, whole(r.v)[1:2], r.x), api.ErrLeaf)
	_, _, e := witness.Grow(r.set, r.s, r.a, r.blinds, r.tape, tree.Challenges{Ys: r.c.Ys, Zs: r.c.Zs, Xs: r.c.Xs, Ws: r.c.Ws})
	errno(t, "Grow without us", e, api.ErrArity)
	if !slices.Equal(r.state(), was) || !bytes.Equal(r.s.Encode(), system) {
		t.Error("a call has changed what was handed in")
	}
}

func TestP3HandedInIsNotKept(t *testing.T) {
	for _, related := range []bool{false, true} {
		r := newRoom(t, related)
		a, want := r.answer(t, related), newRoom(t, related).answer(t, related).state()
		r.spoil()
		if !slices.Equal(a.state(), want) {
			t.Error("what is written into what was handed in is seen in an answer")
		}
		newRoom(t, related).answer(t, related).spoil()
		if !slices.Equal(newRoom(t, related).answer(t, related).state(), want) {
			t.Error("what is written into one answer is seen in another")
		}
	}
}

// lists: all lists of scalars that are handed out.
func (a answers) lists() [][]scalar.Scalar {
	list := a.scalars()
	for _, v := range a.v {
		list = append(list, v.K)
	}
	return append(list, treeLists(&a.x)...)
}

func treeLists(x *witness.Tree[msm.Free]) [][]scalar.Scalar {
	var list [][]scalar.Scalar
	for _, at := range places(x) {
		if at.e != nil {
			list = append(list, at.e.K)
		}
	}
	return list
}

// No two places of what is handed out are one, nor one of them a place of what was handed in.
func TestP3AnswersAreApart(t *testing.T) {
	for _, related := range []bool{false, true} {
		r := newRoom(t, related)
		handed := [][]scalar.Scalar{r.tape.SL, r.tape.SR, r.c.Ys, r.c.Zs, r.c.Xs, r.c.Ws, r.c.Us, r.a.L, r.a.R, r.a.O, r.a.V, r.blinds}
		for _, a := range slices.Concat([]msm.Free{r.set.B, r.set.Blind, r.set.Q}, r.set.G, r.set.H, r.v) {
			handed = append(handed, a.K)
		}
		handed = append(handed, treeLists(&r.x)...)
		seen := map[*scalar.Scalar]int{}
		count := 0
		for _, list := range slices.Concat(r.answer(t, related).lists(), r.answer(t, related).lists(), handed) {
			for i := range whole(list) {
				seen[&whole(list)[i]]++
				count++
			}
		}
		if len(seen) != count {
			t.Errorf("%d places of %d are shared", count-len(seen), count)
		}
	}
}

// The lists of branches, too, are each of its own memory.
func TestP3BranchesAreApart(t *testing.T) {
	r := newRoom(t, false)
	a, b := r.answer(t, false), r.answer(t, false)
	want := b.state()
	var kids func(n tree.Node[msm.Free])
	kids = func(n tree.Node[msm.Free]) {
		for _, kid := range n.Kids {
			kids(kid.Node)
		}
		_ = append(n.Kids, tree.Kid[msm.Free]{U: num(99)})
	}
	whatWas := a.state()
	_ = append(a.x.Ys, witness.Y[msm.Free]{Y: num(99)})
	for _, y := range a.x.Ys {
		_ = append(y.Zs, witness.Z[msm.Free]{Z: num(99)})
		for _, z := range y.Zs {
			_ = append(z.Xs, witness.X[msm.Free]{X: num(99)})
			for _, x := range z.Xs {
				_ = append(x.Ws, tree.W[msm.Free]{W: num(99)})
				for _, w := range x.Ws {
					kids(w.Node)
				}
			}
		}
	}
	for _, list := range a.scalars() {
		_ = append(list, num(99))
	}
	if !slices.Equal(a.state(), whatWas) {
		t.Error("what is appended to one list is seen in another")
	}
	a.spoil()
	if !slices.Equal(b.state(), want) {
		t.Error("what is written into one answer is seen in another")
	}
}

// The same room is asked twice, and in between for something else: each answer hangs on what is handed in alone.
func TestP1NothingIsKept(t *testing.T) {
	r := newRoom(t, false)
	want := r.answer(t, false).state()
	newRoom(t, true).answer(t, true)
	other := newRoom(t, false)
	slices.Reverse(other.c.Us)
	slices.Reverse(other.c.Ys)
	other.answer(t, false)
	if !slices.Equal(r.answer(t, false).state(), want) {
		t.Error("a second call answers something else")
	}
}

// nil and empty lists are the same.
func TestP4NilAndEmpty(t *testing.T) {
	s, _ := circuit.New(0)
	g, _ := gens.Basis(1)
	tape := arith.Tape{SL: nums(1), SR: nums(2)}
	for _, none := range [][]scalar.Scalar{nil, {}} {
		v, x, e := witness.Grow(g, s, circuit.Assignment{L: none, R: none, O: none, V: none}, none, tape, easy(s))
		errno(t, "Grow", e, api.OK)
		if len(v) != 0 {
			t.Errorf("commitments of no values: %v", v)
		}
		for _, points := range [][]msm.Free{nil, {}} {
			for i := range x.Ys[0].Zs[0].Xs {
				x.Ys[0].Zs[0].Xs[i].Ws[0].Node.Kids = []tree.Kid[msm.Free]{}
			}
			checks(t, "no values", g, s, points, x, api.OK)
			o, _ := witness.Extract(g, s, points, x)
			if !empty(o) {
				t.Errorf("of nothing: %v", o)
			}
			other := x
			other.Ys = []witness.Y[msm.Free]{}
			checks(t, "no ys", g, s, points, other, api.ErrArity)
			other.Ys = nil
			checks(t, "no ys", g, s, points, other, api.ErrArity)
		}
	}
}

// Over a type that is no group all calls end.
func TestP7NoGroup(t *testing.T) {
	m := sample.Maker(2207)
	for n := range 48 {
		a := []sample.Wild{sample.Wild(n), 1, 2, sample.Wild(3 * n)}
		g := gens.Set[sample.Wild]{B: a[0], Blind: a[1], Q: a[3], G: a, H: a}
		for _, h := range []shape{{0, 0, 1}, {1, 1, 1}, {1, 2, 1}, {1, 3, 0}} {
			s, k := anyCase(&m, h)
			given := systemOf(&m, s)
			v, x, e := witness.Grow(g, given, assignmentOf(&m, k.wired), limbs(&m, k.blinds), tapeOf(&m, k), easy(given))
			errno(t, "Grow", e, api.OK)
			_ = witness.Check(g, given, v, x)
			_, _ = witness.Extract(g, given, v, x)
		}
	}
}
