package ranges_test

// Wrong inputs, alone and together: which error comes first, and that nothing was said.

import (
	"math"
	"testing"

	"veil/api"
	"veil/gens"
	"veil/msm"
	"veil/ranges"
	"veil/sample"
	"veil/scalar"
	"veil/transcript"
	"veil/wire"
)

// noParams: that are not allowed.
func noParams() []api.Params {
	list := []api.Params{{}, {Bits: 8, Count: 3}, {Bits: math.MinInt, Count: math.MinInt}, {Bits: math.MaxInt, Count: 1}, {Bits: 1, Count: math.MaxInt}, {Bits: 1 << 62, Count: 2}, {Bits: -8, Count: -1}}
	for _, bits := range []int{-1, 0, 3, 5, 6, 7, 9, 12, 24, 48, 63, 65, 96, 128} {
		list = append(list, api.Params{Bits: bits, Count: 1}, api.Params{Bits: bits, Count: 4})
	}
	for _, count := range []int{-1, 0, 3, 5, 6, 7, 9, 12, 15, 17, 24, 32} {
		list = append(list, api.Params{Bits: 1, Count: count}, api.Params{Bits: 8, Count: count})
	}
	return list
}

// sizes: those of all lists that calls are handed.
type sizes struct {
	g, h   int // generators
	values int // openings or commitments
	sL, sR int // of a tape, or L and R of a view
	l, r   int // of a proof
}

// fitting: the right ones.
func fitting(p api.Params) sizes {
	n := p.Size()
	return sizes{g: n, h: n, values: p.Count, sL: n, sR: n, l: p.Rounds(), r: p.Rounds()}
}

func someLines(count int) []msm.Line {
	list := make([]msm.Line, max(count, 0))
	for i := range list {
		list[i] = line(4)
	}
	return list
}

func someScalars(count int) []scalar.Scalar {
	list := make([]scalar.Scalar, max(count, 0))
	for i := range list {
		list[i] = num(3)
	}
	return list
}

// call: what is handed to the calls.
type call struct {
	g    gens.Set[msm.Line]
	p    api.Params
	vs   []ranges.Opening
	tape ranges.Tape
	v    []msm.Line
	view ranges.View[msm.Line]
	x    wire.Proof[msm.Line]
}

// callOf: lists of these lengths, and nothing that would be accepted.
func callOf(p api.Params, s sizes) call {
	return call{
		g:    gens.Set[msm.Line]{B: line(1), Blind: line(2), Q: line(3), G: someLines(s.g), H: someLines(s.h)},
		p:    p,
		vs:   make([]ranges.Opening, max(s.values, 0)),
		tape: ranges.Tape{SL: someScalars(s.sL), SR: someScalars(s.sR)},
		v:    someLines(s.values),
		view: ranges.View[msm.Line]{Y: num(1), Z: num(2), X: num(3), TauX: num(4), L: someScalars(s.sL), R: someScalars(s.sR)},
		x:    wire.Proof[msm.Line]{TauX: num(4), L: someLines(s.l), R: someLines(s.r)},
	}
}

// provers: Begin and Prove must answer this, and say nothing but with OK.
func (c call) provers(t *testing.T, want api.Errno) {
	t.Helper()
	r, v, w, e := ranges.Begin(c.g, c.p, c.vs, c.tape)
	errno(t, "Begin", e, want)
	if want != api.OK {
		noView(t, "Begin", w, e, want)
		if r != nil || len(v) != 0 {
			t.Error("Begin: a prover or commitments beside an error")
		}
	}
	o := &oracle{list: someScalars(20)}
	v, x, e := ranges.Prove(c.g, c.p, c.vs, c.tape, o)
	errno(t, "Prove", e, want)
	if want != api.OK {
		noProof(t, "Prove", v, x, e, want)
		heard(t, "Prove", o.heard)
	}
	v, x, e = ranges.Prove(c.g, c.p, c.vs, c.tape, nil)
	noProof(t, "Prove without an Oracle", v, x, e, api.ErrArg)
}

// verifiers: all verifiers of a proof must answer this, and say nothing but with OK.
func (c call) verifiers(t *testing.T, want api.Errno) {
	t.Helper()
	judge := func(make func() transcript.Oracle, want api.Errno) {
		t.Helper()
		e := ranges.Rounds(c.g, c.p, c.v, c.x, make())
		if want != api.OK || e != api.ErrFirst {
			errno(t, "Rounds", e, want)
		}
		one, two, weight, e := ranges.Sides(c.g, c.p, c.v, c.x, make())
		errno(t, "Sides", e, want)
		if want != api.OK && (one != line(0) || two != line(0) || weight != num(0)) {
			t.Error("Sides: something beside an error")
		}
		terms, e := ranges.Terms(c.g, c.p, c.v, c.x, make())
		errno(t, "Terms", e, want)
		if want != api.OK && len(terms) != 0 {
			t.Error("Terms: some beside an error")
		}
		yes, cost := ranges.Once(c.g, c.p, c.v, c.x, make())
		if want != api.OK && (yes || cost != msm.Cost{}) {
			t.Errorf("Once: %v, %v beside an error", yes, cost)
		}
	}
	var all []*oracle
	judge(func() transcript.Oracle {
		all = append(all, &oracle{list: someScalars(20)})
		return all[len(all)-1]
	}, want)
	if want != api.OK {
		for _, o := range all {
			heard(t, "a verifier", o.heard)
		}
	}
	judge(func() transcript.Oracle { return nil }, api.ErrArg)
}

// views: Accepts and Statement must answer these.
func (c call) views(t *testing.T, accepts, statement api.Errno) {
	t.Helper()
	errno(t, "Accepts", ranges.Accepts(c.g, c.p, c.v, c.view), accepts)
	q, s, h, e := ranges.Statement(c.g, c.p, c.view, num(5))
	errno(t, "Statement", e, statement)
	if statement != api.OK && (q != line(0) || s != line(0) || len(h) != 0) {
		t.Error("Statement: something beside an error")
	}
}

// Every list one too short and one too long, alone and with each other one.
func TestLengths(t *testing.T) {
	t.Parallel()
	for _, p := range []api.Params{{Bits: 1, Count: 1}, {Bits: 2, Count: 1}, {Bits: 2, Count: 2}, {Bits: 8, Count: 4}} {
		for code := range 3 * 3 * 3 * 3 * 3 * 3 * 3 {
			step := func() int {
				by := code%3 - 1
				code /= 3
				return by
			}
			s := fitting(p)
			s.g, s.h, s.values, s.sL, s.sR, s.l, s.r = s.g+step(), s.h+step(), s.values+step(), s.sL+step(), s.sR+step(), s.l+step(), s.r+step()
			fit := fitting(p)
			enough := s.g >= fit.g && s.h >= fit.h
			values := s.values == fit.values
			tapes := max(s.sL, 0) == fit.sL && max(s.sR, 0) == fit.sR
			rounds := max(s.l, 0) == fit.l && max(s.r, 0) == fit.r
			c := callOf(p, s)
			c.provers(t, right(enough && values && tapes, api.ErrLength))
			c.verifiers(t, right(enough && values && rounds, api.ErrLength))
			c.views(t, first(right(enough && values && tapes, api.ErrLength), api.ErrFirst), right(enough, api.ErrLength))
		}
	}
}

// Far more generators than are looked at.
func TestMoreGenerators(t *testing.T) {
	p := api.Params{Bits: 2, Count: 2}
	s := fitting(p)
	s.g, s.h = 3000, 5000
	c := callOf(p, s)
	c.provers(t, api.OK)
	c.verifiers(t, api.OK)
	c.views(t, api.ErrFirst, api.OK)
	_, _, h, _ := ranges.Statement(c.g, p, c.view, num(5))
	if len(h) != p.Size() {
		t.Errorf("Statement: %d of h", len(h))
	}
}

// Params that are not allowed come ahead of all else.
func TestParams(t *testing.T) {
	m := sample.Maker(1300)
	for _, p := range noParams() {
		for range 3 {
			any := func() int { return int(m.Next() % 9) }
			c := callOf(p, sizes{any(), any(), any(), any(), any(), any(), any()})
			for j := range c.vs {
				c.vs[j].V = 1<<64 - 1
			}
			if any() < 4 {
				c.view.Y, c.view.Z, c.view.X = num(0), num(0), num(0)
			}
			c.provers(t, api.ErrParams)
			c.verifiers(t, api.ErrParams)
			c.views(t, api.ErrParams, api.ErrParams)
		}
	}
}

// Lengths come ahead of values.
func TestLengthsAheadOfValues(t *testing.T) {
	p := api.Params{Bits: 2, Count: 2}
	for place := range 2 {
		fit := fitting(p)
		for _, s := range []sizes{fit, {g: 3, h: fit.h, values: 2, sL: 4, sR: 4}, {g: 4, h: 3, values: 2, sL: 4, sR: 4}, {g: 4, h: 4, values: 3, sL: 4, sR: 4}, {g: 4, h: 4, values: 2, sL: 3, sR: 4}, {g: 4, h: 4, values: 2, sL: 4, sR: 5}} {
			c := callOf(p, s)
			c.vs[place].V = 4
			c.provers(t, first(right(s == fit, api.ErrLength), api.ErrValue))
		}
	}
}

// Lengths come ahead of challenges that are 0, and those ahead of the equations.
func TestP1303P1305Zeros(t *testing.T) {
	p := api.Params{Bits: 2, Count: 1}
	v, good := acceptedView(t, p)
	for _, zero := range zeros() {
		for pick := 1; pick < 16; pick++ {
			c := callOf(p, fitting(p))
			c.v, c.view = v, good
			ch := num(5)
			for i, k := range []*scalar.Scalar{&c.view.Y, &c.view.Z, &c.view.X, &ch} {
				if pick>>i&1 == 1 {
					*k = zero
				}
			}
			accepts := right(pick == 8, api.ErrZero)
			errno(t, "Accepts with a 0", ranges.Accepts(lineSet(p), p, c.v, c.view), accepts)
			q, s, h, e := ranges.Statement(lineSet(p), p, c.view, ch)
			errno(t, "Statement with a 0", e, api.ErrZero)
			if q != line(0) || s != line(0) || len(h) != 0 {
				t.Error("Statement: something beside an error")
			}
			c.view.That = num(99)
			errno(t, "Accepts with a 0 and another that", ranges.Accepts(lineSet(p), p, c.v, c.view), first(accepts, api.ErrFirst))
			c.view.L = c.view.L[1:]
			errno(t, "Accepts with a 0 and an L too short", ranges.Accepts(lineSet(p), p, c.v, c.view), api.ErrLength)
			g := lineSet(p)
			g.H = g.H[1:]
			_, _, _, e = ranges.Statement(g, p, c.view, ch)
			errno(t, "Statement with a 0 and too few generators", e, api.ErrLength)
		}
	}
}

func lineSet(p api.Params) gens.Set[msm.Line] {
	g, _ := gens.Lines([]byte("set"), p.Size())
	return g
}

// acceptedView: one, over lineSet.
func acceptedView(t *testing.T, p api.Params) ([]msm.Line, ranges.View[msm.Line]) {
	t.Helper()
	m := sample.Maker(13)
	k := anySecret(&m, p)
	r, v, _, e := ranges.Begin(lineSet(p), p, openingsOf(&m, k), tapeOf(&m, k))
	errno(t, "Begin", e, api.OK)
	_, e = r.Middle(num(7), num(8))
	errno(t, "Middle", e, api.OK)
	w, e := r.Finish(num(9))
	errno(t, "Finish", e, api.OK)
	errno(t, "Accepts", ranges.Accepts(lineSet(p), p, v, w), api.OK)
	return v, w
}

// Of several equations that fail the first is told.
func TestP1303OrderOfTheEquations(t *testing.T) {
	p := api.Params{Bits: 2, Count: 2}
	v, good := acceptedView(t, p)
	for pick := range 8 {
		w := good
		w.L = append([]scalar.Scalar{}, good.L...)
		if pick&1 != 0 {
			w.TauX = w.TauX.Add(num(1)) // the first alone
		}
		if pick&2 != 0 {
			w.Mu = w.Mu.Add(num(1)) // the second alone
		}
		g := lineSet(p)
		if pick&4 != 0 { // the inner product, and what makes up for it in both equations
			w.That = w.That.Add(num(1))
			w.TauX = w.TauX.Sub(g.B.K.Mul(g.Blind.K.Invert()))
		}
		want := first(right(pick&1 == 0, api.ErrFirst), right(pick&2 == 0, api.ErrSecond), right(pick&4 == 0, api.ErrInner))
		errno(t, "Accepts", ranges.Accepts(g, p, v, w), want)
	}
}
