package ideal_test

// Wrong inputs, alone and several at one time: which error comes first, and that nothing comes beside it.

import (
	"math"
	"math/big"
	"testing"

	"veil/api"
	"veil/gens"
	"veil/ideal"
	"veil/msm"
	"veil/ranges"
	"veil/sample"
	"veil/scalar"
)

// noParams: that are not allowed.
func noParams() []api.Params {
	list := []api.Params{{}, {Bits: 8, Count: 3}, {Bits: math.MinInt, Count: math.MinInt}, {Bits: math.MaxInt, Count: 1}, {Bits: 1, Count: math.MaxInt}, {Bits: 1 << 62, Count: 2}, {Bits: -8, Count: -1}}
	for _, bits := range []int{-64, -1, 0, 3, 5, 6, 7, 9, 12, 24, 48, 63, 65, 96, 128} {
		list = append(list, api.Params{Bits: bits, Count: 1}, api.Params{Bits: bits, Count: 4})
	}
	for _, count := range []int{-1, 0, 3, 5, 6, 7, 9, 12, 15, 17, 24, 32} {
		list = append(list, api.Params{Bits: 1, Count: count}, api.Params{Bits: 8, Count: count})
	}
	return list
}

// call: what is handed to the calls.
type call struct {
	g       gens.Set[msm.Line]
	p       api.Params
	v       []msm.Line
	vs      []ranges.Opening
	y, z, x scalar.Scalar
	made    ideal.Tape[msm.Line]
	tape    ranges.Tape
}

func someLines(count int) []msm.Line {
	list := make([]msm.Line, max(count, 0))
	for i := range list {
		list[i] = line(4)
	}
	return list
}

func someScalars(count int) []scalar.Scalar {
	list := make([]scalar.Scalar, max(count, 0))
	for i := range list {
		list[i] = num(3)
	}
	return list
}

// sizes: of all lists that the calls are handed.
type sizes struct{ g, h, values, left, right int }

// callOf: lists of these lengths.
func callOf(p api.Params, s sizes) call {
	return call{
		g: gens.Set[msm.Line]{B: line(1), Blind: line(2), Q: line(3), G: someLines(s.g), H: someLines(s.h)},
		p: p,
		v: someLines(s.values), vs: make([]ranges.Opening, max(s.values, 0)),
		y: num(5), z: num(6), x: num(7),
		made: ideal.Tape[msm.Line]{L: someScalars(s.left), R: someScalars(s.right), TauX: num(1), Mu: num(2), S: line(3), T2: line(4)},
		tape: ranges.Tape{Alpha: num(1), Rho: num(2), Tau1: num(3), Tau2: num(4), SL: someScalars(s.left), SR: someScalars(s.right)},
	}
}

// fitting: the right lengths.
func fitting(p api.Params) sizes {
	n := p.Size()
	return sizes{g: n, h: n, values: p.Count, left: n, right: n}
}

// answers: the three calls must answer these errors, and nothing beside one.
func (c call) answers(t *testing.T, simulate, match, back api.Errno) {
	t.Helper()
	w, e := ideal.Simulate(c.g, c.p, c.v, c.y, c.z, c.x, c.made)
	errno(t, "Simulate", e, simulate)
	if e != api.OK && !sameViews(w, ranges.View[msm.Line]{}) {
		t.Errorf("Simulate: %v beside an error", w)
	}
	m, e := ideal.Match(c.g, c.p, c.vs, c.y, c.z, c.x, c.tape)
	errno(t, "Match", e, match)
	if e != api.OK && !sameMade(m, ideal.Tape[msm.Line]{}) {
		t.Errorf("Match: %v beside an error", m)
	}
	b, e := ideal.Back(c.g, c.p, c.vs, c.y, c.z, c.x, c.made)
	errno(t, "Back", e, back)
	if e != api.OK && !sameTapes(b, ranges.Tape{}) {
		t.Errorf("Back: %v beside an error", b)
	}
}

// all: the three calls must answer the same error.
func (c call) all(t *testing.T, want api.Errno) {
	t.Helper()
	c.answers(t, want, want, want)
}

// Each list by itself: one too short, one too long, empty, twice as long.
func TestLengths(t *testing.T) {
	for _, p := range append(allParams(16), api.Params{Bits: 64, Count: 1}, api.Params{Bits: 64, Count: 16}) {
		n := p.Size()
		callOf(p, fitting(p)).all(t, api.OK)
		for _, wrong := range []int{0, n - 1} {
			s := fitting(p)
			s.g = wrong
			callOf(p, s).all(t, api.ErrLength)
			s.g, s.h = n, wrong
			callOf(p, s).all(t, api.ErrLength)
			s.g = 2 * n // more of the one don't make up for the other
			callOf(p, s).all(t, api.ErrLength)
		}
		for _, more := range []int{n + 1, 2*n + 5} {
			s := fitting(p)
			s.g = more
			callOf(p, s).all(t, api.OK)
			s.h = more
			callOf(p, s).all(t, api.OK)
			s.g = n
			callOf(p, s).all(t, api.OK)
		}
		for _, wrong := range []int{0, p.Count - 1, p.Count + 1, 2 * p.Count} {
			s := fitting(p)
			s.values = wrong
			callOf(p, s).all(t, api.ErrLength)
		}
		for _, wrong := range []int{0, n - 1, n + 1, 2 * n} {
			s := fitting(p)
			s.left = wrong
			callOf(p, s).all(t, api.ErrLength)
			s.right = wrong
			callOf(p, s).all(t, api.ErrLength)
			s.left = n
			callOf(p, s).all(t, api.ErrLength)
		}
	}
}

// A simulator is not asked for a prover's lists, nor a prover for a simulator's.
func TestOtherListsAreNotAskedFor(t *testing.T) {
	p := api.Params{Bits: 2, Count: 2}
	c := callOf(p, fitting(p))
	c.tape.SL = nil
	c.answers(t, api.OK, api.ErrLength, api.OK)
	c = callOf(p, fitting(p))
	c.made.R = nil
	c.answers(t, api.ErrLength, api.OK, api.ErrLength)
	c = callOf(p, fitting(p))
	c.vs = nil
	c.answers(t, api.OK, api.ErrLength, api.ErrLength)
	c = callOf(p, fitting(p))
	c.v = nil
	c.answers(t, api.ErrLength, api.OK, api.OK)
}

func TestParams(t *testing.T) {
	for _, p := range noParams() {
		lengths := sizes{}
		if p.Size() > 0 && p.Size() < 2000 && p.Count < 2000 {
			lengths = fitting(p)
		}
		for _, s := range []sizes{{}, lengths, {g: 8, h: 8, values: 1, left: 8, right: 8}} {
			c := callOf(p, s)
			c.all(t, api.ErrParams)
			c.y, c.g.Blind = num(0), line(0)
			for j := range c.vs {
				c.vs[j].V = math.MaxUint64
			}
			c.all(t, api.ErrParams)
		}
	}
}

// Values at the ends of their range, in any place.
func TestValues(t *testing.T) {
	for _, p := range append(allParams(32), api.Params{Bits: 64, Count: 1}, api.Params{Bits: 64, Count: 4}) {
		top, some := p.Top()
		for j := range p.Count {
			for _, v := range []uint64{0, 1, top - 1, top, top + 1, math.MaxUint64} {
				want := api.OK
				if some && v >= top {
					want = api.ErrValue
				}
				c := callOf(p, fitting(p))
				c.vs[j].V = v
				c.answers(t, api.OK, want, want)
			}
		}
	}
}

// Challenges that are 0, by any limbs, alone and together.
func TestZeroChallenges(t *testing.T) {
	for _, p := range []api.Params{{Bits: 1, Count: 1}, {Bits: 2, Count: 4}, {Bits: 64, Count: 2}} {
		for _, zero := range zeros() {
			for pick := 1; pick < 8; pick++ {
				c := callOf(p, fitting(p))
				for i, place := range []*scalar.Scalar{&c.y, &c.z, &c.x} {
					if pick>>i&1 == 1 {
						*place = zero
					}
				}
				c.all(t, api.ErrZero)
			}
		}
	}
}

// fault: something wrong, and what the three calls answer to it; those that are named first stand first.
type fault struct {
	name                  string
	simulate, match, back api.Errno
	do                    func(c *call)
}

// faults: of calls that fit otherwise.
func faults(m *sample.Maker) []fault {
	zero := func() scalar.Scalar { return m.Limbs(new(big.Int)) }
	long := func(name string, do func(c *call)) fault {
		return fault{name, api.ErrLength, api.ErrLength, api.ErrLength, do}
	}
	never := func(name string, do func(c *call)) fault {
		return fault{name, api.ErrZero, api.ErrZero, api.ErrZero, do}
	}
	return []fault{
		{"Params", api.ErrParams, api.ErrParams, api.ErrParams, func(c *call) { list := noParams(); c.p = list[m.Next()%uint64(len(list))] }},
		long("G", func(c *call) { c.g.G = c.g.G[1:] }),
		long("H", func(c *call) { c.g.H = c.g.H[1:] }),
		long("values", func(c *call) { c.v, c.vs = append(c.v, line(1)), append(c.vs, ranges.Opening{}) }),
		long("left", func(c *call) { c.made.L, c.tape.SL = c.made.L[1:], c.tape.SL[1:] }),
		long("right", func(c *call) { c.made.R, c.tape.SR = append(c.made.R, num(1)), append(c.tape.SR, num(1)) }),
		{"value", api.OK, api.ErrValue, api.ErrValue, func(c *call) { c.vs[len(c.vs)-1].V = 1 << 4 }},
		never("y", func(c *call) { c.y = zero() }),
		never("z", func(c *call) { c.z = zero() }),
		never("x", func(c *call) { c.x = zero() }),
		{"Blind", api.OK, api.OK, api.ErrSingular, func(c *call) { c.g.Blind.K = zero() }},
	}
}

// Any of them together: the one that is named first is the answer.
func TestOrderOfErrors(t *testing.T) {
	t.Parallel()
	m := sample.Maker(1600)
	p := api.Params{Bits: 4, Count: 2}
	list := faults(&m)
	or := func(was, now api.Errno) api.Errno {
		if was != api.OK {
			return was
		}
		return now
	}
	for pick := range 1 << len(list) {
		c := callOf(p, fitting(p))
		var simulate, match, back api.Errno
		for i, f := range list {
			if pick>>i&1 == 1 {
				f.do(&c)
				simulate, match, back = or(simulate, f.simulate), or(match, f.match), or(back, f.back)
			}
		}
		c.answers(t, simulate, match, back)
		if t.Failed() {
			t.Fatalf("with the faults %b", pick)
		}
	}
}
