package tree_test

// Wrong inputs, alone and several at one time: which error comes first, and that nothing comes beside it.

import (
	"math"
	"testing"

	"veil/api"
	"veil/gens"
	"veil/msm"
	"veil/ranges"
	"veil/sample"
	"veil/scalar"
	"veil/tree"
)

// call: what is handed to the calls.
type call struct {
	g    gens.Set[msm.Line]
	p    api.Params
	v    []msm.Line
	vs   []ranges.Opening
	tape ranges.Tape
	c    tree.Challenges
	x    tree.Tree[msm.Line]
}

// callOf: that is right.
func callOf(t *testing.T, m *sample.Maker, p api.Params) call {
	t.Helper()
	k := farSecret(m, p)
	a := call{p: p, vs: openingsOf(m, k), tape: tapeOf(m, k), c: challengesOf(m, anyAsked(m, p))}
	a.g, _ = gens.Lines([]byte("call"), p.Size())
	var e api.Errno
	a.v, a.x, e = tree.Grow(a.g, p, a.vs, a.tape, a.c)
	errno(t, "Grow", e, api.OK)
	return a
}

// answers: the calls must answer these errors, and nothing beside one.
func (a call) answers(t *testing.T, check, grow api.Errno) {
	t.Helper()
	checks(t, "the call", a.g, a.p, a.v, a.x, check)
	v, x, e := tree.Grow(a.g, a.p, a.vs, a.tape, a.c)
	errno(t, "Grow", e, grow)
	if e != api.OK && (len(v) != 0 || x.A != line(0) || x.S != line(0) || len(x.Ys) != 0) {
		t.Errorf("Grow: %v and %v beside an error", v, x)
	}
}

// fault: something wrong, and what the calls answer to it; those that are named first stand first.
type fault struct {
	name        string
	check, grow api.Errno
	do          func(a *call)
}

// faults: of calls that are right otherwise.
func faults(m *sample.Maker) []fault {
	both := func(name string, e api.Errno, do func(a *call)) fault { return fault{name, e, e, do} }
	cut := func(list []scalar.Scalar) []scalar.Scalar { return list[1:] }
	return []fault{
		both("Params", api.ErrParams, func(a *call) { list := noParams(); a.p = list[m.Next()%uint64(len(list))] }),
		both("too great", api.ErrArity, func(a *call) {
			if a.p.Allowed() {
				a.p = api.Params{Bits: 16 << (m.Next() % 3), Count: 1 << (m.Next() % 5)}
			}
		}),
		both("G", api.ErrLength, func(a *call) { a.g.G = a.g.G[1:] }),
		both("H", api.ErrLength, func(a *call) { a.g.H = a.g.H[1:] }),
		both("values", api.ErrLength, func(a *call) { a.v, a.vs = append(a.v, line(1)), append(a.vs, ranges.Opening{}) }),
		{"SL", api.OK, api.ErrLength, func(a *call) { a.tape.SL = cut(a.tape.SL) }},
		{"SR", api.OK, api.ErrLength, func(a *call) { a.tape.SR = append(a.tape.SR, num(1)) }},
		{"value", api.OK, api.ErrValue, func(a *call) { a.vs[0].V = 4 }},
		{"Ys", api.OK, api.ErrArity, func(a *call) { a.c.Ys = cut(a.c.Ys) }},
		{"Us", api.OK, api.ErrArity, func(a *call) { a.c.Us[3] = a.c.Us[0].Neg() }},
		{"a tree without a z", api.ErrArity, api.OK, func(a *call) { a.x.Ys[1].Zs = a.x.Ys[1].Zs[1:] }},
		{"another mu", api.ErrLeaf, api.OK, func(a *call) { a.x.Ys[1].Zs[0].Xs[2].Mu = num(77) }},
	}
}

// Any of them together: the one that is named first is the answer.
func TestOrderOfErrors(t *testing.T) {
	t.Parallel()
	m := sample.Maker(1700)
	p := api.Params{Bits: 2, Count: 1}
	list := faults(&m)
	right := callOf(t, &m, p)
	or := func(was, now api.Errno) api.Errno {
		if was != api.OK {
			return was
		}
		return now
	}
	for pick := range 1 << len(list) {
		a := right
		a.x, a.vs = copied(right.x), append([]ranges.Opening{}, right.vs...)
		a.c.Us = append([]scalar.Scalar{}, right.c.Us...)
		check, grow := api.OK, api.OK
		for i, f := range list {
			if pick>>i&1 == 1 {
				f.do(&a)
				check, grow = or(check, f.check), or(grow, f.grow)
			}
		}
		a.answers(t, check, grow)
		if t.Failed() {
			t.Fatalf("with the faults %b", pick)
		}
	}
}

// Each list by itself: one too short, one too long, empty.
func TestP1702P1705Lengths(t *testing.T) {
	t.Parallel()
	m := sample.Maker(17001)
	for _, p := range append(allParams(2), api.Params{Bits: 4, Count: 1}) {
		right := callOf(t, &m, p)
		right.answers(t, api.OK, api.OK)
		n := p.Size()
		for _, count := range []int{0, n - 1} {
			a := right
			a.g.G = right.g.G[:count]
			a.answers(t, api.ErrLength, api.ErrLength)
			a = right
			a.g.H = right.g.H[:count]
			a.answers(t, api.ErrLength, api.ErrLength)
			a.g.G = append(a.g.G, line(1), line(2)) // more of the one don't make up for the other
			a.answers(t, api.ErrLength, api.ErrLength)
		}
		a := right
		a.g.G = append(append([]msm.Line{}, a.g.G...), line(4))
		a.answers(t, api.OK, api.OK)
		a.g.H = append(append([]msm.Line{}, a.g.H...), line(0), line(9))
		a.answers(t, api.OK, api.OK)
		for _, count := range []int{0, p.Count - 1, p.Count + 1, 2 * p.Count} {
			a = right
			a.v, a.vs = make([]msm.Line, count), make([]ranges.Opening, count)
			a.answers(t, api.ErrLength, api.ErrLength)
		}
		for _, count := range []int{0, n - 1, n + 1, 2 * n} {
			a = right
			a.tape.SL = make([]scalar.Scalar, count)
			a.answers(t, api.OK, api.ErrLength)
			a = right
			a.tape.SR = make([]scalar.Scalar, count)
			a.answers(t, api.OK, api.ErrLength)
		}
	}
}

func TestP1702P1705Params(t *testing.T) {
	m := sample.Maker(17002)
	right := callOf(t, &m, api.Params{Bits: 2, Count: 1})
	for _, p := range noParams() {
		a := right
		a.p = p
		a.answers(t, api.ErrParams, api.ErrParams)
		(call{p: p}).answers(t, api.ErrParams, api.ErrParams)
	}
	for _, p := range allParams(api.MaxSize) {
		if p.Size() > 8 {
			a := right
			a.p = p
			a.answers(t, api.ErrArity, api.ErrArity)
			(call{p: p}).answers(t, api.ErrArity, api.ErrArity)
		} else {
			(call{p: p}).answers(t, api.ErrLength, api.ErrLength)
		}
	}
}

// Too many leaves, though all else is right.
func TestP1705TooManyLeaves(t *testing.T) {
	for _, p := range []api.Params{{Bits: 16, Count: 1}, {Bits: 8, Count: 2}, {Bits: 1, Count: 16}, {Bits: 64, Count: 16}} {
		g, _ := gens.Lines([]byte("many"), p.Size())
		tape := ranges.Tape{SL: make([]scalar.Scalar, p.Size()), SR: make([]scalar.Scalar, p.Size())}
		(call{g: g, p: p, v: make([]msm.Line, p.Count), vs: make([]ranges.Opening, p.Count), tape: tape, c: small(p)}).answers(t, api.ErrArity, api.ErrArity)
	}
}

// Values at the ends of their range, in any place.
func TestP1705Values(t *testing.T) {
	t.Parallel()
	m := sample.Maker(17003)
	for _, p := range allParams(4) {
		top, _ := p.Top()
		right := callOf(t, &m, p)
		for j := range p.Count {
			for _, v := range []uint64{0, top - 1, top, top + 1, math.MaxUint64} {
				want := api.OK
				if v >= top {
					want = api.ErrValue
				}
				a := right
				a.vs = append([]ranges.Opening{}, right.vs...)
				a.vs[j].V = v
				_, _, e := tree.Grow(a.g, p, a.vs, a.tape, a.c)
				errno(t, "Grow", e, want)
			}
		}
	}
}

// Challenges of Grow: lists one too long, one too short, empty; 0, and the same by any limbs.
func TestP1705Challenges(t *testing.T) {
	t.Parallel()
	m := sample.Maker(17004)
	for _, p := range allParams(2) {
		right := callOf(t, &m, p)
		grow := func(what string, c tree.Challenges, want api.Errno) {
			t.Helper()
			v, x, e := tree.Grow(right.g, p, right.vs, right.tape, c)
			errno(t, what, e, want)
			if e != api.OK && len(v)+len(x.Ys) != 0 {
				t.Errorf("%s: a tree beside an error", what)
			}
		}
		for i := range 5 {
			list := func(c *tree.Challenges) *[]scalar.Scalar {
				return []*[]scalar.Scalar{&c.Ys, &c.Zs, &c.Xs, &c.Ws, &c.Us}[i]
			}
			c := right.c
			was := *list(&c)
			*list(&c) = was[1:]
			grow("one too few", c, api.ErrArity)
			*list(&c) = append(append([]scalar.Scalar{}, was...), num(123456789))
			grow("one too many", c, api.ErrArity)
			*list(&c) = nil
			grow("none", c, api.ErrArity)
			own := append([]scalar.Scalar{}, was...)
			*list(&c) = own
			for j := range own {
				for _, zero := range zeros() {
					own[j] = zero
					grow("a 0", c, api.ErrArity)
				}
				for l := range own {
					if l == j {
						continue
					}
					for _, look := range sample.Scalars(number(was[l])) {
						own[j] = look
						grow("the same", c, api.ErrArity)
					}
					own[j] = m.Limbs(negative(number(was[l])))
					if i == 4 {
						grow("u and -u", c, api.ErrArity)
					} else if others := append(append([]scalar.Scalar{}, own[:j]...), own[j+1:]...); !contains(others, own[j]) {
						grow("a challenge and its negative", c, api.OK)
					}
				}
				own[j] = was[j]
			}
			grow("as it was", c, api.OK)
		}
	}
}

// contains: by any limbs.
func contains(list []scalar.Scalar, k scalar.Scalar) bool {
	for _, other := range list {
		if other.Same(k) {
			return true
		}
	}
	return false
}
