package witness_test

// Wrong inputs, alone and several at one time: which error comes first, and that nothing comes beside it.

import (
	"slices"
	"testing"

	"veil/api"
	"veil/arith"
	"veil/circuit"
	"veil/gens"
	"veil/msm"
	"veil/sample"
	"veil/scalar"
	"veil/tree"
	"veil/witness"
)

// call: what is handed to the calls.
type call struct {
	g      gens.Set[msm.Line]
	s      *circuit.System
	v      []msm.Line
	a      circuit.Assignment
	blinds []scalar.Scalar
	tape   arith.Tape
	c      tree.Challenges
	x      witness.Tree[msm.Line]
}

// callOf: that is right.
func callOf(t *testing.T, m *sample.Maker, h shape) call {
	t.Helper()
	s, k := farCase(m, h)
	a := call{s: systemOf(m, s), a: assignmentOf(m, k.wired), blinds: limbs(m, k.blinds), tape: tapeOf(m, k), c: challengesOf(m, anyAsked(m, s))}
	a.g, _ = gens.Lines([]byte("call"), s.size())
	var e api.Errno
	a.v, a.x, e = witness.Grow(a.g, a.s, a.a, a.blinds, a.tape, a.c)
	errno(t, "Grow", e, api.OK)
	return a
}

// checked: Check and Extract must answer this error, and nothing beside one.
func (a call) checked(t *testing.T, what string, want api.Errno) {
	t.Helper()
	checks(t, what, a.g, a.s, a.v, a.x, want)
}

// grown: Grow must answer this error, and nothing beside one.
func (a call) grown(t *testing.T, what string, want api.Errno) {
	t.Helper()
	v, x, e := witness.Grow(a.g, a.s, a.a, a.blinds, a.tape, a.c)
	errno(t, what+": Grow", e, want)
	if e != api.OK && (len(v) != 0 || x.AI != line(0) || x.AO != line(0) || x.S != line(0) || len(x.Ys) != 0) {
		t.Errorf("%s: %v and %v beside an error", what, v, x)
	}
}

// fault: something wrong, and what is answered to it; those that are named first stand first.
type fault struct {
	name string
	e    api.Errno
	do   func(a *call)
}

// together: any of them together, each time anew: the one that is named first is the answer.
func together(t *testing.T, right call, list []fault, anew func(a *call), answers func(a call, e api.Errno)) {
	t.Helper()
	for pick := range 1 << len(list) {
		a, want := right, api.OK
		anew(&a)
		for i, f := range list {
			if pick>>i&1 == 1 {
				f.do(&a)
				if want == api.OK {
					want = f.e
				}
			}
		}
		answers(a, want)
		if t.Failed() {
			t.Fatalf("with the faults %b", pick)
		}
	}
}

// ofSystems: faults of the system, and of generators.
func ofSystems(m *sample.Maker, great *circuit.System) []fault {
	return []fault{
		{"no system", api.ErrArg, func(a *call) { a.s = []*circuit.System{nil, {}}[m.Next()%2] }},
		{"too great", api.ErrArity, func(a *call) {
			if a.s.Clone() != nil {
				a.s = great
			}
		}},
		{"G", api.ErrLength, func(a *call) { a.g.G = a.g.G[1:] }},
		{"H", api.ErrLength, func(a *call) { a.g.H = a.g.H[1:] }},
	}
}

func TestP2202OrderOfErrors(t *testing.T) {
	t.Parallel()
	m := sample.Maker(22001)
	right := callOf(t, &m, shape{1, 2, 0})
	list := append(ofSystems(&m, bare(t, 1, 17, 1)),
		fault{"commitments", api.ErrLength, func(a *call) { a.v = append(slices.Clone(a.v), line(1)) }},
		fault{"a z too few", api.ErrArity, func(a *call) { a.x.Ys[1].Zs = a.x.Ys[1].Zs[1:] }},
		fault{"the same x twice", api.ErrArity, func(a *call) { a.x.Ys[0].Zs[1].Xs[5].X = a.x.Ys[0].Zs[1].Xs[0].X }},
		fault{"another mu", api.ErrLeaf, func(a *call) { a.x.Ys[0].Zs[0].Xs[2].Mu = num(77) }},
	)
	was := right.x
	together(t, right, list, func(a *call) { a.x = copied(was) }, func(a call, e api.Errno) { a.checked(t, "faults", e) })
}

// cut: without its last one.
func cut(list []scalar.Scalar) []scalar.Scalar { return list[:len(list)-1] }

// more: with one more.
func more(list []scalar.Scalar) []scalar.Scalar { return append(slices.Clone(list), num(123456789)) }

// changed: another one in a place.
func changed(list []scalar.Scalar, i int, k scalar.Scalar) []scalar.Scalar {
	own := slices.Clone(list)
	if i < len(own) {
		own[i] = k
	}
	return own
}

func TestP2204OrderOfErrors(t *testing.T) {
	t.Parallel()
	m := sample.Maker(22002)
	right := callOf(t, &m, shape{1, 2, 1})
	list := append(ofSystems(&m, bare(t, 1, 5, 10)),
		fault{"L", api.ErrLength, func(a *call) { a.a.L = cut(a.a.L) }},
		fault{"O", api.ErrLength, func(a *call) { a.a.O = more(a.a.O) }},
		fault{"V", api.ErrLength, func(a *call) { a.a.V = more(a.a.V) }},
		fault{"blinds", api.ErrLength, func(a *call) { a.blinds = nil }},
		fault{"SR", api.ErrLength, func(a *call) { a.tape.SR = cut(a.tape.SR) }},
		fault{"gate", api.ErrGate, func(a *call) { a.a.R = changed(a.a.R, 1, a.a.R[1].Add(num(1))) }},
		fault{"requirement", api.ErrRequire, func(a *call) { a.a.V = changed(a.a.V, 0, num(1)) }},
		fault{"Ys", api.ErrArity, func(a *call) { a.c.Ys = cut(a.c.Ys) }},
		fault{"Xs", api.ErrArity, func(a *call) { a.c.Xs = changed(a.c.Xs, 3, a.c.Xs[1]) }},
		fault{"Us", api.ErrArity, func(a *call) { a.c.Us = changed(a.c.Us, 3, a.c.Us[0].Neg()) }},
	)
	together(t, right, list, func(*call) {}, func(a call, e api.Errno) { a.grown(t, "faults", e) })
}

// Each list by itself: one too short, one too long, empty.
func TestP2202P2204Lengths(t *testing.T) {
	t.Parallel()
	m := sample.Maker(22003)
	for _, h := range append(append(tiny(), small()...), shape{1, 3, 0}) {
		right := callOf(t, &m, h)
		right.checked(t, "right", api.OK)
		right.grown(t, "right", api.OK)
		n := len(right.g.G)
		for _, count := range []int{0, n - 1} {
			a := right
			a.g.G = right.g.G[:count]
			a.checked(t, "G", api.ErrLength)
			a.grown(t, "G", api.ErrLength)
			a = right
			a.g.H = right.g.H[:count]
			a.checked(t, "H", api.ErrLength)
			a.grown(t, "H", api.ErrLength)
			a.g.G = append(slices.Clone(a.g.G), line(1), line(2)) // more of the one don't make up for the other
			a.checked(t, "H", api.ErrLength)
			a.grown(t, "H", api.ErrLength)
		}
		a := right
		a.g.G = append(slices.Clone(a.g.G), line(4))
		a.checked(t, "more of G", api.OK)
		a.grown(t, "more of G", api.OK)
		a.g.H = append(slices.Clone(a.g.H), line(0), line(9))
		a.checked(t, "more of H", api.OK)
		a.grown(t, "more of H", api.OK)
		for _, count := range []int{0, h.values - 1, h.values + 1, 2 * h.values, 17} {
			if count < 0 || count == h.values {
				continue
			}
			a = right
			a.v = make([]msm.Line, count)
			a.checked(t, "commitments", api.ErrLength)
		}
		for name, list := range map[string]func(a *call) *[]scalar.Scalar{
			"L": func(a *call) *[]scalar.Scalar { return &a.a.L }, "R": func(a *call) *[]scalar.Scalar { return &a.a.R },
			"O": func(a *call) *[]scalar.Scalar { return &a.a.O }, "V": func(a *call) *[]scalar.Scalar { return &a.a.V },
			"blinds": func(a *call) *[]scalar.Scalar { return &a.blinds },
			"SL":     func(a *call) *[]scalar.Scalar { return &a.tape.SL }, "SR": func(a *call) *[]scalar.Scalar { return &a.tape.SR },
		} {
			a = right
			was := *list(&a)
			*list(&a) = more(was)
			a.grown(t, "one more of "+name, api.ErrLength)
			if len(was) == 0 {
				continue
			}
			*list(&a) = cut(was)
			a.grown(t, "one fewer of "+name, api.ErrLength)
			*list(&a) = nil
			a.grown(t, "none of "+name, api.ErrLength)
		}
	}
}

// With places that have no gate an assignment still has one number for each gate, a tape one for each place.
func TestP2204LengthsOfThreeGates(t *testing.T) {
	m := sample.Maker(22004)
	a := callOf(t, &m, shape{1, 3, 0})
	if len(a.a.L) != 3 || len(a.tape.SL) != 4 {
		t.Fatal("other lengths")
	}
	a.a.L, a.a.R, a.a.O = append(a.a.L, num(0)), append(a.a.R, num(0)), append(a.a.O, num(0))
	a.grown(t, "wires of four gates", api.ErrLength)
	a = callOf(t, &m, shape{1, 3, 0})
	a.tape.SL, a.tape.SR = a.tape.SL[:3], a.tape.SR[:3]
	a.grown(t, "a tape of three places", api.ErrLength)
}

// No system: ahead of all else, though all else is wrong or right.
func TestP2202P2204NoSystem(t *testing.T) {
	m := sample.Maker(22005)
	for _, s := range []*circuit.System{nil, {}} {
		a := callOf(t, &m, shape{1, 1, 0})
		a.s = s
		a.checked(t, "no system", api.ErrArg)
		a.grown(t, "no system", api.ErrArg)
		(call{s: s}).checked(t, "nothing", api.ErrArg)
		(call{s: s}).grown(t, "nothing", api.ErrArg)
	}
}

// Gates that do not multiply and requirements that are not met, one by one and together: as circuit.Holds says.
func TestP2204Faults(t *testing.T) {
	t.Parallel()
	m := sample.Maker(22006)
	for _, h := range append(append(tiny(), small()...), shape{1, 3, 1}) {
		right := callOf(t, &m, h)
		one := num(1)
		for name, list := range map[string]func(a *call) *[]scalar.Scalar{
			"L": func(a *call) *[]scalar.Scalar { return &a.a.L }, "R": func(a *call) *[]scalar.Scalar { return &a.a.R },
			"O": func(a *call) *[]scalar.Scalar { return &a.a.O }, "V": func(a *call) *[]scalar.Scalar { return &a.a.V },
		} {
			for i := range *list(&right) {
				a := right
				*list(&a) = changed(*list(&a), i, (*list(&a))[i].Add(one))
				want := api.ErrGate
				if name == "V" {
					want = api.ErrRequire
				}
				errno(t, "Holds", a.s.Holds(a.a), want)
				a.grown(t, "another "+name, want)
				if name != "V" && h.values > 0 {
					a.a.V = changed(a.a.V, 0, num(3))
					a.grown(t, "another "+name+" and V", api.ErrGate)
				}
			}
		}
		for i := range right.a.L {
			// The gate multiplies, but something is asked of its wires.
			a := right
			a.a.L = changed(a.a.L, i, a.a.L[i].Add(one))
			a.a.O = changed(a.a.O, i, a.a.L[i].Mul(a.a.R[i]))
			want := a.s.Holds(a.a)
			if want == api.ErrGate || want == api.OK && i < h.values {
				t.Fatal("a fault of another kind")
			}
			a.grown(t, "another wire", want)
		}
	}
	// Nothing holds for a system that asks something of the one wire alone.
	a := callOf(t, &m, shape{0, 1, 0})
	a.s.Require(circuit.Const(num(5)))
	a.c = easy(a.s)
	a.grown(t, "the one wire alone", api.ErrRequire)
}

// Challenges of Grow: lists one too long, one too short, empty; 0, and the same by any limbs.
func TestP2204Challenges(t *testing.T) {
	t.Parallel()
	m := sample.Maker(22007)
	for _, h := range []shape{{0, 0, 0}, {0, 0, 1}, {1, 1, 1}, {1, 2, 1}} {
		right := callOf(t, &m, h)
		for i := range 5 {
			list := func(a *call) *[]scalar.Scalar {
				return []*[]scalar.Scalar{&a.c.Ys, &a.c.Zs, &a.c.Xs, &a.c.Ws, &a.c.Us}[i]
			}
			a := right
			was := *list(&a)
			*list(&a) = was[1:]
			a.grown(t, "one too few", api.ErrArity)
			*list(&a) = more(was)
			a.grown(t, "one too many", api.ErrArity)
			*list(&a) = nil
			a.grown(t, "none", api.ErrArity)
			own := slices.Clone(was)
			*list(&a) = own
			for j := range own {
				for _, zero := range zeros() {
					own[j] = zero
					a.grown(t, "a 0", api.ErrArity)
				}
				for l := range own {
					if l == j {
						continue
					}
					for _, look := range sample.Scalars(number(was[l])) {
						own[j] = look
						a.grown(t, "the same", api.ErrArity)
					}
					own[j] = m.Limbs(negative(number(was[l])))
					others := append(slices.Clone(own[:j]), own[j+1:]...)
					if i == 4 {
						a.grown(t, "u and -u", api.ErrArity)
					} else if l == (j+1)%len(own) && !slices.ContainsFunc(others, own[j].Same) {
						a.grown(t, "a challenge and its negative", api.OK)
					}
				}
				own[j] = was[j]
			}
			a.grown(t, "as it was", api.OK)
		}
	}
}
