package tree_test

// The document's rules: what is handed in is left alone and not kept, what is handed out is new; types that are no group.

import (
	"slices"
	"testing"

	"veil/api"
	"veil/gens"
	"veil/ipa"
	"veil/msm"
	"veil/ranges"
	"veil/sample"
	"veil/scalar"
	"veil/tree"
)

// room: all that calls are handed, over Free, with others behind all of it.
type room struct {
	set   gens.Set[msm.Free]
	vs    []ranges.Opening
	tape  ranges.Tape
	c     tree.Challenges
	v     []msm.Free
	x     tree.Tree[msm.Free]
	s     ipa.Statement[msm.Free]
	n     tree.Node[msm.Free]
	p     api.Params
	maker sample.Maker
}

// behind: the list with others behind it.
func behind[T any](list []T, others ...T) []T {
	return append(append(make([]T, 0, len(list)+len(others)), list...), others...)[:len(list)]
}

func (r *room) scalars(count int) []scalar.Scalar {
	list := make([]scalar.Scalar, count+2)
	for i := range list {
		list[i] = sample.Words(sample.Number(r.maker.Bytes(32)))
	}
	return list[:count]
}

// element: of any scalars, with two behind them.
func (r *room) element() msm.Free { return msm.Free{K: r.scalars(3)} }

func (r *room) elements(count int) []msm.Free {
	var list []msm.Free
	for range count + 2 {
		list = append(list, r.element())
	}
	return list[:count:len(list)]
}

// roomy: the same element by other limbs, with two scalars behind it.
func (r *room) roomy(a msm.Free) msm.Free {
	var list []scalar.Scalar
	for _, k := range a.K {
		list = append(list, r.maker.Limbs(number(k)))
	}
	return msm.Free{K: behind(list, r.scalars(2)...)}
}

func (r *room) roomyNode(n tree.Node[msm.Free]) tree.Node[msm.Free] {
	out := tree.Node[msm.Free]{A: n.A, B: n.B, L: r.roomy(n.L), R: r.roomy(n.R)}
	for _, kid := range n.Kids {
		out.Kids = append(out.Kids, tree.Kid[msm.Free]{U: kid.U, Node: r.roomyNode(kid.Node)})
	}
	if len(out.Kids) > 0 {
		out.Kids = behind(out.Kids, tree.Kid[msm.Free]{U: num(5)}, tree.Kid[msm.Free]{Node: tree.Node[msm.Free]{L: r.element()}})
	}
	return out
}

// roomyTree: the same tree, with others behind each list.
func (r *room) roomyTree(t tree.Tree[msm.Free]) tree.Tree[msm.Free] {
	out := tree.Tree[msm.Free]{A: r.roomy(t.A), S: r.roomy(t.S)}
	for _, y := range t.Ys {
		outY := tree.Y[msm.Free]{Y: y.Y}
		for _, z := range y.Zs {
			outZ := tree.Z[msm.Free]{Z: z.Z, T1: r.roomy(z.T1), T2: r.roomy(z.T2)}
			for _, x := range z.Xs {
				outX := x
				outX.Ws = nil
				for _, w := range x.Ws {
					outX.Ws = append(outX.Ws, tree.W[msm.Free]{W: w.W, Node: r.roomyNode(w.Node)})
				}
				outX.Ws = behind(outX.Ws, tree.W[msm.Free]{W: num(3)})
				outZ.Xs = append(outZ.Xs, outX)
			}
			outZ.Xs = behind(outZ.Xs, tree.X[msm.Free]{X: num(4)})
			outY.Zs = append(outY.Zs, outZ)
		}
		outY.Zs = behind(outY.Zs, tree.Z[msm.Free]{T1: r.element()})
		out.Ys = append(out.Ys, outY)
	}
	out.Ys = behind(out.Ys, tree.Y[msm.Free]{Y: num(6)})
	return out
}

// newRoom: the same each time. In a related one the node's generators are all the same, and one of its leaves goes its own way by that: so a relation comes out.
func newRoom(t *testing.T, related bool) *room {
	t.Helper()
	r := &room{p: api.Params{Bits: 2, Count: 1}, maker: 17}
	r.set = gens.Set[msm.Free]{B: r.element(), Blind: r.element(), Q: r.element(), G: r.elements(2), H: r.elements(2)}
	r.vs = behind([]ranges.Opening{{V: 3, Blind: r.scalars(1)[0]}}, ranges.Opening{V: 1}, ranges.Opening{V: 2})
	k := r.scalars(4)
	r.tape = ranges.Tape{Alpha: k[0], Rho: k[1], Tau1: k[2], Tau2: k[3], SL: r.scalars(2), SR: r.scalars(2)}
	r.c = tree.Challenges{Ys: r.scalars(2), Zs: r.scalars(3), Xs: r.scalars(3), Ws: r.scalars(2), Us: r.scalars(4)}
	v, x, e := tree.Grow(r.set, r.p, r.vs, r.tape, r.c)
	errno(t, "Grow", e, api.OK)
	r.v, r.x = behind(v, r.element()), r.roomyTree(x)

	a, b := r.scalars(2), r.scalars(2)
	r.s = ipa.Statement[msm.Free]{Q: r.element(), G: r.elements(2), H: r.elements(2)}
	if related {
		r.s.Q = msm.Free{}
		for _, list := range [][]msm.Free{r.s.G, r.s.H} {
			for i := range list {
				list[i] = msm.Free{K: slices.Clone(r.s.G[0].K)}
			}
		}
	}
	r.s.P, _ = ipa.Image(r.s.Q, r.s.G, r.s.H, a, b)
	left, _ := ipa.Image(r.s.Q, r.s.G[1:], r.s.H[:1], a[:1], b[1:])
	right, _ := ipa.Image(r.s.Q, r.s.G[:1], r.s.H[1:], a[1:], b[:1])
	r.n = tree.Node[msm.Free]{L: left, R: right}
	for _, u := range r.c.Us {
		down := u.Invert()
		r.n.Kids = append(r.n.Kids, tree.Kid[msm.Free]{U: u, Node: tree.Node[msm.Free]{
			A: u.Mul(a[0]).Add(down.Mul(a[1])), B: down.Mul(b[0]).Add(u.Mul(b[1])),
		}})
	}
	if leaf := &r.n.Kids[2].Node; related {
		leaf.A, leaf.B = leaf.A.Add(num(1)), leaf.B.Add(num(-1))
	}
	r.n = r.roomyNode(r.n)
	return r
}

// state: all scalars of a room, the room behind them too, as one list.
func (r *room) state() []scalar.Scalar {
	list := slices.Concat(whole(r.tape.SL), whole(r.tape.SR), whole(r.c.Ys), whole(r.c.Zs), whole(r.c.Xs), whole(r.c.Ws), whole(r.c.Us))
	for _, a := range slices.Concat([]msm.Free{r.set.B, r.set.Blind, r.set.Q, r.s.P, r.s.Q}, whole(r.set.G), whole(r.set.H), whole(r.v), whole(r.s.G), whole(r.s.H)) {
		list = append(list, whole(a.K)...)
	}
	for _, v := range whole(r.vs) {
		list = append(list, num(int64(v.V)), v.Blind)
	}
	return append(append(list, treeState(r.x)...), nodeState(r.n)...)
}

func whole[T any](list []T) []T { return list[:cap(list)] }

func nodeState(n tree.Node[msm.Free]) []scalar.Scalar {
	list := slices.Concat([]scalar.Scalar{n.A, n.B}, whole(n.L.K), whole(n.R.K))
	for _, kid := range whole(n.Kids) {
		list = append(append(list, kid.U), nodeState(kid.Node)...)
	}
	return list
}

func treeState(t tree.Tree[msm.Free]) []scalar.Scalar {
	list := slices.Concat(whole(t.A.K), whole(t.S.K))
	for _, y := range whole(t.Ys) {
		list = append(list, y.Y)
		for _, z := range whole(y.Zs) {
			list = append(append(append(list, z.Z), whole(z.T1.K)...), whole(z.T2.K)...)
			for _, x := range whole(z.Xs) {
				list = append(list, x.X, x.TauX, x.Mu, x.That)
				for _, w := range whole(x.Ws) {
					list = append(append(list, w.W), nodeState(w.Node)...)
				}
			}
		}
	}
	return list
}

// answers: all that the calls hand out, of this room.
type answers struct {
	v       []msm.Free
	x       tree.Tree[msm.Free]
	o       tree.Outcome
	a, b, r []scalar.Scalar
}

func (r *room) answer(t *testing.T) answers {
	t.Helper()
	var a answers
	var e api.Errno
	a.v, a.x, e = tree.Grow(r.set, r.p, r.vs, r.tape, r.c)
	errno(t, "Grow", e, api.OK)
	errno(t, "Check", tree.Check(r.set, r.p, r.v, r.x), api.OK)
	a.o, e = tree.Extract(r.set, r.p, r.v, r.x)
	errno(t, "Extract", e, api.OK)
	a.a, a.b, a.r, e = tree.Fold(r.s, r.n)
	errno(t, "Fold", e, api.OK)
	if related := r.s.Q.Same(msm.Free{}); related != (len(a.r) == 5) || related == (len(a.a) == 2) {
		t.Errorf("Fold: %v, %v, %v", a.a, a.b, a.r)
	}
	return a
}

// state: of answers, as one list; without the room behind them, which is free.
func (a answers) state() []scalar.Scalar {
	list := slices.Concat(a.a, a.b, a.r, a.o.Relation)
	for _, v := range a.v {
		list = append(list, v.K...)
	}
	for _, o := range a.o.Openings {
		list = append(list, num(int64(o.V)), o.Blind)
	}
	return append(list, treeState(copied(turnTree(a.x, func(a msm.Free) msm.Free { return msm.Free{K: slices.Clone(a.K)} }, func(k scalar.Scalar) scalar.Scalar { return k })))...)
}

// spoil: other things everywhere, the room behind them too.
func (a answers) spoil() {
	for _, list := range [][]scalar.Scalar{a.a, a.b, a.r, a.o.Relation} {
		fill(list)
	}
	for _, v := range a.v {
		fill(v.K)
	}
	clear(whole(a.v))
	for j := range whole(a.o.Openings) {
		whole(a.o.Openings)[j] = ranges.Opening{V: 77}
	}
	spoilTree(a.x)
}

func fill(list []scalar.Scalar) {
	for i := range whole(list) {
		whole(list)[i] = scalar.Int(888)
	}
}

func spoilNode(n tree.Node[msm.Free]) {
	fill(n.L.K)
	fill(n.R.K)
	for _, kid := range whole(n.Kids) {
		spoilNode(kid.Node)
	}
	for i := range whole(n.Kids) {
		whole(n.Kids)[i] = tree.Kid[msm.Free]{U: num(8)}
	}
}

func spoilTree(t tree.Tree[msm.Free]) {
	fill(t.A.K)
	fill(t.S.K)
	for _, y := range whole(t.Ys) {
		for _, z := range whole(y.Zs) {
			fill(z.T1.K)
			fill(z.T2.K)
			for _, x := range whole(z.Xs) {
				for _, w := range whole(x.Ws) {
					spoilNode(w.Node)
				}
				clear(whole(x.Ws))
			}
			clear(whole(z.Xs))
		}
		clear(whole(y.Zs))
	}
	clear(whole(t.Ys))
}

// spoil: other things everywhere in what was handed in.
func (r *room) spoil() {
	for _, list := range [][]scalar.Scalar{r.tape.SL, r.tape.SR, r.c.Ys, r.c.Zs, r.c.Xs, r.c.Ws, r.c.Us} {
		fill(list)
	}
	for _, list := range [][]msm.Free{{r.set.B, r.set.Blind, r.set.Q, r.s.P, r.s.Q}, r.set.G, r.set.H, r.v, r.s.G, r.s.H} {
		for _, a := range whole(list) {
			fill(a.K)
		}
	}
	for j := range whole(r.vs) {
		whole(r.vs)[j] = ranges.Opening{V: 2}
	}
	spoilTree(r.x)
	spoilNode(r.n)
}

func TestP3HandedInIsLeft(t *testing.T) {
	for _, related := range []bool{false, true} {
		r, was := newRoom(t, related), newRoom(t, related).state()
		a := r.answer(t)
		if !slices.Equal(r.state(), was) {
			t.Fatal("a call has changed what was handed in")
		}
		a.spoil()
		if !slices.Equal(r.state(), was) {
			t.Fatal("what is written into an answer is seen in what was handed in")
		}
	}
}

// With an error, too, all is as it was.
func TestP3HandedInIsLeftBesideErrors(t *testing.T) {
	r, was := newRoom(t, false), newRoom(t, false).state()
	for _, p := range []api.Params{{Bits: 3, Count: 1}, {Bits: 16, Count: 1}, {Bits: 4, Count: 1}, {Bits: 1, Count: 1}, {Bits: 1, Count: 2}} {
		_, _, e := tree.Grow(r.set, p, r.vs, r.tape, r.c)
		o, f := tree.Extract(r.set, p, r.v, r.x)
		if e == api.OK || f == api.OK || len(o.Openings) != 0 {
			t.Errorf("%v: no error", p)
		}
	}
	if e := tree.Check(r.set, r.p, whole(r.v)[1:2], r.x); e != api.ErrLeaf {
		t.Errorf("Check of another commitment: %d", e)
	}
	if _, _, _, e := tree.Fold(ipa.Statement[msm.Free]{P: r.s.Q, Q: r.s.Q, G: r.s.G, H: r.s.H}, r.n); e != api.ErrFold {
		t.Errorf("Fold of another p: %d", e)
	}
	if !slices.Equal(r.state(), was) {
		t.Error("a call has changed what was handed in")
	}
}

func TestP3HandedInIsNotKept(t *testing.T) {
	for _, related := range []bool{false, true} {
		r := newRoom(t, related)
		a, want := r.answer(t), newRoom(t, related).answer(t).state()
		r.spoil()
		if !slices.Equal(a.state(), want) {
			t.Error("what is written into what was handed in is seen in an answer")
		}
		newRoom(t, related).answer(t).spoil()
		if !slices.Equal(newRoom(t, related).answer(t).state(), want) {
			t.Error("what is written into one answer is seen in another")
		}
	}
}

// nodeLists: all lists of scalars of a node's elements.
func nodeLists(n tree.Node[msm.Free]) [][]scalar.Scalar {
	list := [][]scalar.Scalar{n.L.K, n.R.K}
	for _, kid := range n.Kids {
		list = append(list, nodeLists(kid.Node)...)
	}
	return list
}

func treeLists(t tree.Tree[msm.Free]) [][]scalar.Scalar {
	list := [][]scalar.Scalar{t.A.K, t.S.K}
	for _, y := range t.Ys {
		for _, z := range y.Zs {
			list = append(list, z.T1.K, z.T2.K)
			for _, x := range z.Xs {
				for _, w := range x.Ws {
					list = append(list, nodeLists(w.Node)...)
				}
			}
		}
	}
	return list
}

// lists: all lists of scalars that are handed out.
func (a answers) lists() [][]scalar.Scalar {
	list := [][]scalar.Scalar{a.a, a.b, a.r, a.o.Relation}
	for _, v := range a.v {
		list = append(list, v.K)
	}
	return append(list, treeLists(a.x)...)
}

// No two places of what is handed out are one, nor one of them a place of what was handed in.
func TestP3AnswersAreApart(t *testing.T) {
	for _, related := range []bool{false, true} {
		r := newRoom(t, related)
		handed := [][]scalar.Scalar{r.tape.SL, r.tape.SR, r.c.Ys, r.c.Zs, r.c.Xs, r.c.Ws, r.c.Us}
		for _, a := range slices.Concat([]msm.Free{r.set.B, r.set.Blind, r.set.Q}, r.set.G, r.set.H, r.v) {
			handed = append(handed, a.K)
		}
		handed = append(append(handed, treeLists(r.x)...), nodeLists(r.n)...)
		seen := map[*scalar.Scalar]int{}
		count := 0
		for _, list := range slices.Concat(r.answer(t).lists(), r.answer(t).lists(), handed) {
			for i := range whole(list) {
				seen[&whole(list)[i]]++
				count++
			}
		}
		if len(seen) != count {
			t.Errorf("%d places of %d are shared", count-len(seen), count)
		}
	}
}

// A relation comes out of a room, too, and it is one of its own memory.
func TestP3RelationIsApart(t *testing.T) {
	m := sample.Maker(1733)
	p := api.Params{Bits: 2, Count: 1}
	w, k, c := plainWorld(&m, p), farSecret(&m, p), farAsked(&m, p)
	v, x := w.commitments(k), w.grown(w.honest(k), c)
	turns()[0].do(&m, w, v, c, &x, spot{1, 2, 1, 0})
	g, points, given := setOf(&m, sample.Lines(), w), elements(&m, sample.Lines(), v), treeOf(&m, sample.Lines(), x)
	first, _ := tree.Extract(g, p, points, given)
	second, _ := tree.Extract(g, p, points, given)
	fill(first.Relation)
	third, e := tree.Extract(g, p, points, given)
	if e != api.OK || len(second.Relation) != 7 || !slices.Equal(second.Relation, third.Relation) || slices.Equal(first.Relation, second.Relation) {
		t.Errorf("Extract: %v, %v, %v", first, second, third)
	}
}

// The same room is asked twice, and in between for something else: each answer hangs on what is handed in alone.
func TestP1NothingIsKept(t *testing.T) {
	r := newRoom(t, false)
	want := r.answer(t).state()
	newRoom(t, true).answer(t)
	other := newRoom(t, false)
	slices.Reverse(other.c.Us)
	slices.Reverse(other.c.Ys)
	other.answer(t)
	if !slices.Equal(r.answer(t).state(), want) {
		t.Error("a second call answers something else")
	}
}

// nil and empty lists are the same.
func TestP4NilAndEmpty(t *testing.T) {
	for _, kids := range [][]tree.Kid[msm.Line]{nil, {}} {
		s := ipa.Statement[msm.Line]{P: line(6), Q: line(1), G: []msm.Line{line(2)}, H: []msm.Line{line(2)}}
		a, b, r, e := tree.Fold(s, tree.Node[msm.Line]{A: num(2), B: num(0), Kids: kids})
		errno(t, "Fold", e, api.ErrFold)
		if len(a)+len(b)+len(r) != 0 {
			t.Error("lists beside an error")
		}
		s.P = line(4)
		a, b, r, e = tree.Fold(s, tree.Node[msm.Line]{A: num(2), B: num(0), Kids: kids})
		errno(t, "Fold", e, api.OK)
		if !slices.Equal(a, nums(2)) || !slices.Equal(b, nums(0)) || len(r) != 0 {
			t.Errorf("Fold: %v, %v, %v", a, b, r)
		}
	}
	g, p, v, x := example(t)
	for i := range x.Ys[0].Zs {
		x.Ys[0].Zs[i].Xs[0].Ws[0].Node.Kids = []tree.Kid[msm.Free]{}
	}
	checks(t, "empty kids", g, p, v, x, api.OK)
	x.Ys = []tree.Y[msm.Free]{}
	checks(t, "no ys", g, p, v, x, api.ErrArity)
	checks(t, "no commitments", g, p, []msm.Free{}, x, api.ErrLength)
	checks(t, "no commitments", g, p, nil, x, api.ErrLength)
}

// A leaf's scalars are taken by any limbs and told least.
func TestP1704LeastLimbs(t *testing.T) {
	s := ipa.Statement[msm.Line]{P: line(2*5 + 3*7 + 6*11), Q: line(11), G: []msm.Line{line(5)}, H: []msm.Line{line(7)}}
	for _, a := range sample.Scalars(number(num(2))) {
		for _, b := range sample.Scalars(number(num(3))) {
			gotA, gotB, r, e := tree.Fold(s, tree.Node[msm.Line]{A: a, B: b, L: line(1), R: line(2)})
			if e != api.OK || len(r) != 0 || !slices.Equal(gotA, nums(2)) || !slices.Equal(gotB, nums(3)) {
				t.Fatalf("Fold: %v, %v, %v, %d", gotA, gotB, r, e)
			}
		}
	}
}

// wildNode: over a type that is no group.
func wildNode(rounds int, n sample.Wild) tree.Node[sample.Wild] {
	out := tree.Node[sample.Wild]{A: num(int64(n)), B: num(2), L: n, R: n + 1}
	for u := range 4 {
		if rounds > 0 {
			out.Kids = append(out.Kids, tree.Kid[sample.Wild]{U: num(int64(u + 1)), Node: wildNode(rounds-1, n+sample.Wild(u))})
		}
	}
	return out
}

// Over a type that is no group all calls end.
func TestP7NoGroup(t *testing.T) {
	p := api.Params{Bits: 2, Count: 1}
	for n := range 64 {
		a := []sample.Wild{sample.Wild(n), 1, 2, sample.Wild(3 * n)}
		g := gens.Set[sample.Wild]{B: a[0], Blind: a[1], Q: a[3], G: a, H: a}
		v, x, _ := tree.Grow(g, p, []ranges.Opening{{V: 3}}, ranges.Tape{SL: nums(1, 2), SR: nums(3, int64(n))}, small(p))
		_ = tree.Check(g, p, v, x)
		_, _ = tree.Extract(g, p, v, x)
		_, _, _, _ = tree.Fold(ipa.Statement[sample.Wild]{P: a[0], Q: a[1], G: a, H: a}, wildNode(2, a[0]))
		_, _, _, _ = tree.Fold(ipa.Statement[sample.Wild]{P: a[0], Q: a[1], G: a[:1], H: a[:1]}, wildNode(0, a[0]))
	}
}

// yes: the group of one element: every tree that has the arities is accepted, whatever it says.
type yes struct{}

func (a yes) Add(yes) yes                         { return a }
func (a yes) Neg() yes                            { return a }
func (a yes) Double() yes                         { return a }
func (a yes) Times(scalar.Scalar) yes             { return a }
func (a yes) Same(yes) bool                       { return true }
func (a yes) Encode() api.Bytes32                 { return api.Bytes32{} }
func (a yes) Decode(api.Bytes32) (yes, api.Errno) { return a, api.OK }

// Over the group of one element any scalars are accepted: what comes out is an opening in range, or a relation, all the same.
func TestP1703OneElement(t *testing.T) {
	t.Parallel()
	m := sample.Maker(1734)
	for i := range 30 {
		for _, p := range allParams(2) {
			w, c := basis(p), farAsked(&m, p)
			r := w.honest(farSecret(&m, p))
			if i%3 == 0 {
				// No bit at one place, or no fitting aR; all else is as an honest prover says it.
				r.aL[p.Size()-1], r.aR[0] = m.Number(), m.Number()
			}
			x := turnTree(w.grown(r, c), func(numbers) yes { return yes{} }, func(k scalar.Scalar) scalar.Scalar { return k })
			list := places(&x)
			for range m.Next() % 3 {
				if at := list[m.Next()%uint64(len(list))]; at.k != nil {
					*at.k = m.Limbs(far(&m))
				}
			}
			g := gens.Set[yes]{G: make([]yes, p.Size()), H: make([]yes, p.Size())}
			o, e := tree.Extract(g, p, make([]yes, p.Count), x)
			errno(t, "Extract", e, api.OK)
			top, _ := p.Top()
			for _, opening := range o.Openings {
				if opening.V >= top {
					t.Fatalf("%v: %v is out of range", p, opening)
				}
			}
			if len(o.Openings) != 0 && len(o.Openings) != p.Count || len(o.Openings) == 0 && (len(o.Relation) != 3+2*p.Size() || numbersOf(o.Relation).Same(numbers{})) {
				t.Fatalf("%v: %v", p, o)
			}
		}
	}
}
