package arith_test

// Wrong inputs, alone and together: which error comes first, and that nothing was said.

import (
	"slices"
	"testing"

	"veil/api"
	"veil/arith"
	"veil/circuit"
	"veil/gens"
	"veil/msm"
	"veil/sample"
	"veil/scalar"
	"veil/transcript"
)

// call: what is handed to the calls, over Line; as it is made all of it fits, and all is accepted.
type call struct {
	g       gens.Set[msm.Line]
	s       *circuit.System
	a       circuit.Assignment
	blinds  []scalar.Scalar
	tape    arith.Tape
	y, z, x scalar.Scalar
	v       []msm.Line
	view    arith.View[msm.Line]
	ch      scalar.Scalar
	proof   arith.Proof[msm.Line]
	given   []scalar.Scalar
}

func newCall(t *testing.T, h shape) call {
	t.Helper()
	m := sample.Maker(2100)
	k := anySecret(&m, h)
	c := call{s: systemOf(&m, anySystem(&m, h, k)), a: assignmentOf(&m, k), blinds: limbs(&m, k.blinds), tape: tapeOf(&m, k), y: num(7), z: num(8), x: num(9), ch: num(5)}
	c.g, _ = gens.Lines([]byte("call"), arith.Size(c.s))
	c.given = nums(7, 8, 9, 5, 3, 4, 5, 6, 7, 8, 9, 10)
	var e api.Errno
	c.v, c.view, e = arith.Play(c.g, c.s, c.a, c.blinds, c.tape, c.y, c.z, c.x)
	errno(t, "Play", e, api.OK)
	_, c.proof, e = arith.Prove(c.g, c.s, c.a, c.blinds, c.tape, transcript.Given(c.given...))
	errno(t, "Prove", e, api.OK)
	return c
}

// provers: Play and Prove must answer these; Prove says nothing but with OK.
func (c call) provers(t *testing.T, what string, play, prove api.Errno) {
	t.Helper()
	v, w, e := arith.Play(c.g, c.s, c.a, c.blinds, c.tape, c.y, c.z, c.x)
	noViewUnless(t, v, w, e, play)
	o := &oracle{list: c.given}
	v, x, e := arith.Prove(c.g, c.s, c.a, c.blinds, c.tape, o)
	errno(t, "Prove: "+what, e, prove)
	if prove != api.OK {
		noProof(t, "Prove: "+what, v, x, e, prove)
		heard(t, "Prove: "+what, o.heard)
	}
	v, x, e = arith.Prove(c.g, c.s, c.a, c.blinds, c.tape, nil)
	noProof(t, "Prove without an Oracle", v, x, e, api.ErrArg)
}

// verifiers: all verifiers of a proof must answer this, and say nothing but with OK.
func (c call) verifiers(t *testing.T, what string, want api.Errno) {
	t.Helper()
	judge := func(make func() transcript.Oracle, want api.Errno) {
		t.Helper()
		errno(t, "Rounds: "+what, arith.Rounds(c.g, c.s, c.v, c.proof, make()), want)
		one, two, weight, e := arith.Sides(c.g, c.s, c.v, c.proof, make())
		errno(t, "Sides: "+what, e, want)
		if want != api.OK && (one != line(0) || two != line(0) || weight != num(0)) {
			t.Errorf("Sides: %s: something beside an error", what)
		}
		yes, cost := arith.Once(c.g, c.s, c.v, c.proof, make())
		if yes != (want == api.OK) || want != api.OK && cost != (msm.Cost{}) {
			t.Errorf("Once: %s: %v, %v", what, yes, cost)
		}
	}
	var all []*oracle
	judge(func() transcript.Oracle {
		all = append(all, &oracle{list: c.given})
		return all[len(all)-1]
	}, want)
	for _, o := range all {
		if want != api.OK {
			heard(t, what, o.heard)
		}
	}
	judge(func() transcript.Oracle { return nil }, api.ErrArg)
}

// views: Accepts and Statement must answer these.
func (c call) views(t *testing.T, what string, accepts, statement api.Errno) {
	t.Helper()
	errno(t, "Accepts: "+what, arith.Accepts(c.g, c.s, c.v, c.view), accepts)
	s, e := arith.Statement(c.g, c.s, c.view, c.ch)
	errno(t, "Statement: "+what, e, statement)
	if statement != api.OK && (s.P != line(0) || s.Q != line(0) || len(s.G) != 0 || len(s.H) != 0) {
		t.Errorf("Statement: %s: something beside an error", what)
	}
}

// resized: one too few, as many, or one too many; none where there is none to take away.
func resized[T any](list []T, by int) []T {
	if by < 0 {
		return list[:max(0, len(list)+by)]
	}
	return append(slices.Clip(list), make([]T, by)...)
}

// length: a list of a call, by its name and how it is made longer or shorter.
type length struct {
	name   string
	change func(c *call, by int) (changed bool)
	// Who looks at it: provers, verifiers of a proof, Accepts, Statement.
	prove, verify, accept, state bool
	least                        bool // more are no fault
}

// listed: a list of scalars or elements in its place.
func listed[T any](place func(c *call) *[]T) func(c *call, by int) bool {
	return func(c *call, by int) bool {
		list := place(c)
		before := len(*list)
		*list = resized(*list, by)
		return len(*list) != before
	}
}

func lengths() []length {
	type scalars = []scalar.Scalar
	return []length{
		{"G", listed(func(c *call) *[]msm.Line { return &c.g.G }), true, true, true, true, true},
		{"H", listed(func(c *call) *[]msm.Line { return &c.g.H }), true, true, true, true, true},
		{"L of the assignment", listed(func(c *call) *scalars { return &c.a.L }), true, false, false, false, false},
		{"R of the assignment", listed(func(c *call) *scalars { return &c.a.R }), true, false, false, false, false},
		{"O of the assignment", listed(func(c *call) *scalars { return &c.a.O }), true, false, false, false, false},
		{"V of the assignment", listed(func(c *call) *scalars { return &c.a.V }), true, false, false, false, false},
		{"blindings", listed(func(c *call) *scalars { return &c.blinds }), true, false, false, false, false},
		{"SL", listed(func(c *call) *scalars { return &c.tape.SL }), true, false, false, false, false},
		{"SR", listed(func(c *call) *scalars { return &c.tape.SR }), true, false, false, false, false},
		{"commitments", listed(func(c *call) *[]msm.Line { return &c.v }), false, true, true, false, false},
		{"L of the view", listed(func(c *call) *scalars { return &c.view.L }), false, false, true, false, false},
		{"R of the view", listed(func(c *call) *scalars { return &c.view.R }), false, false, true, false, false},
		{"L of the proof", listed(func(c *call) *[]msm.Line { return &c.proof.L }), false, true, false, false, false},
		{"R of the proof", listed(func(c *call) *[]msm.Line { return &c.proof.R }), false, true, false, false, false},
	}
}

// lengthShapes: some of which have no values, no gates, fewer gates than places.
func lengthShapes() []shape {
	return []shape{{0, 0, 1}, {0, 1, 1}, {1, 1, 1}, {2, 2, 1}, {1, 3, 2}, {2, 5, 2}}
}

// Every list one too short and one too long, alone and with each other one.
func TestLengths(t *testing.T) {
	t.Parallel()
	all := lengths()
	for _, h := range lengthShapes() {
		whole := newCall(t, h)
		whole.provers(t, "nothing", api.OK, api.OK)
		whole.verifiers(t, "nothing", api.OK)
		whole.views(t, "nothing", api.OK, api.OK)
		for i := range all {
			for j := range i + 1 {
				for code := range 4 {
					c := whole
					var prove, verify, accept, state bool
					change := func(l length, by int) {
						wrong := l.change(&c, by) && !(l.least && by > 0)
						prove, verify = prove || wrong && l.prove, verify || wrong && l.verify
						accept, state = accept || wrong && l.accept, state || wrong && l.state
					}
					change(all[i], 2*(code&1)-1)
					if j < i {
						change(all[j], code&2-1)
					}
					what := all[i].name + ", " + all[j].name
					c.provers(t, what, right(!prove, api.ErrLength), right(!prove, api.ErrLength))
					c.verifiers(t, what, right(!verify, api.ErrLength))
					c.views(t, what, right(!accept, api.ErrLength), right(!state, api.ErrLength))
				}
			}
		}
	}
}

// As many gates as places, where there are fewer: an assignment must have one number for each gate, not for each place.
func TestLengthsOfGatesAndPlaces(t *testing.T) {
	c := newCall(t, shape{1, 3, 1})
	for _, n := range []int{0, 1, 2, 3, 4, 5} {
		d := c
		d.a.L, d.a.R, d.a.O = make([]scalar.Scalar, n), make([]scalar.Scalar, n), make([]scalar.Scalar, n)
		if n != 3 {
			d.provers(t, "gates", api.ErrLength, api.ErrLength)
		}
		d = c
		d.tape.SL, d.tape.SR = make([]scalar.Scalar, n), make([]scalar.Scalar, n)
		d.provers(t, "places", right(n == 4, api.ErrLength), right(n == 4, api.ErrLength))
	}
}

// Far more generators than are looked at.
func TestMoreGenerators(t *testing.T) {
	c := newCall(t, shape{1, 3, 2})
	c.g.G, c.g.H = resized(c.g.G, 3000), resized(c.g.H, 5000)
	c.provers(t, "more", api.OK, api.OK)
	c.verifiers(t, "more", api.OK)
	c.views(t, "more", api.OK, api.OK)
	s, _ := arith.Statement(c.g, c.s, c.view, num(5))
	if len(s.G) != 4 || len(s.H) != 4 {
		t.Errorf("Statement: %d of G, %d of H", len(s.G), len(s.H))
	}
}

// No system comes ahead of all else.
func TestNoSystem(t *testing.T) {
	m := sample.Maker(2199)
	all := lengths()
	for _, s := range noSystems() {
		for round := range 20 {
			c := newCall(t, shape{1, 3, 2})
			c.s = s
			for range round % 4 {
				all[m.Next()%uint64(len(all))].change(&c, int(m.Next()%3)-1)
			}
			if round%3 == 0 {
				c.y, c.ch, c.view.Z = num(0), num(0), num(0)
				c.a.O = append(slices.Clone(c.a.O[1:]), num(3))
			}
			c.provers(t, "no system", api.ErrArg, api.ErrArg)
			c.verifiers(t, "no system", api.ErrArg)
			c.views(t, "no system", api.ErrArg, api.ErrArg)
		}
	}
	// Nothing at all.
	for _, s := range noSystems() {
		c := call{s: s}
		c.provers(t, "nothing", api.ErrArg, api.ErrArg)
		c.verifiers(t, "nothing", api.ErrArg)
		c.views(t, "nothing", api.ErrArg, api.ErrArg)
	}
}

// Lengths come ahead of the assignment's faults, a gate ahead of a requirement, and both ahead of challenges that are 0.
func TestP2102P2105OrderOfErrors(t *testing.T) {
	t.Parallel()
	whole := newCall(t, shape{2, 3, 2})
	for pick := range 64 {
		for _, zero := range zeros()[:3] {
			c := whole
			c.a.O, c.a.V = slices.Clone(c.a.O), slices.Clone(c.a.V)
			has := func(bit int) bool { return pick>>bit&1 == 1 }
			if has(0) {
				c.tape.SR = c.tape.SR[1:]
			}
			if has(1) {
				c.a.O[1] = c.a.O[1].Add(num(1))
			}
			if has(2) {
				c.a.V[1] = c.a.V[1].Add(num(1))
			}
			for i, k := range []*scalar.Scalar{&c.y, &c.z, &c.x} {
				if has(3 + i) {
					*k = zero
				}
			}
			faults := first(right(!has(0), api.ErrLength), right(!has(1), api.ErrGate), right(!has(2), api.ErrRequire))
			c.provers(t, "many", first(faults, right(pick>>3 == 0, api.ErrZero)), faults)
		}
	}
}

// Lengths come ahead of challenges that are 0, and those ahead of the equations.
func TestP2103P2104Zeros(t *testing.T) {
	t.Parallel()
	whole := newCall(t, shape{1, 3, 2})
	for _, zero := range zeros() {
		for pick := 1; pick < 16; pick++ {
			c := whole
			for i, k := range []*scalar.Scalar{&c.view.Y, &c.view.Z, &c.view.X, &c.ch} {
				if pick>>i&1 == 1 {
					*k = zero
				}
			}
			accepts := right(pick == 8, api.ErrZero)
			c.views(t, "a 0", accepts, api.ErrZero)
			c.view.That = num(99)
			c.views(t, "a 0 and another that", first(accepts, api.ErrFirst), api.ErrZero)
			c.view.L = c.view.L[1:]
			c.views(t, "a 0 and an L too short", api.ErrLength, api.ErrZero)
			c.g.H = c.g.H[1:]
			c.views(t, "a 0 and too few generators", api.ErrLength, api.ErrLength)
		}
	}
}

// Of several equations that fail the first is told.
func TestP2103OrderOfTheEquations(t *testing.T) {
	whole := newCall(t, shape{2, 5, 3})
	for pick := range 8 {
		c := whole
		if pick&1 != 0 {
			c.view.TauX = c.view.TauX.Add(num(1)) // the first alone
		}
		if pick&2 != 0 {
			c.view.Mu = c.view.Mu.Add(num(1)) // the second alone
		}
		if pick&4 != 0 { // the inner product, and what makes up for it in the first
			c.view.That = c.view.That.Add(num(1))
			c.view.TauX = c.view.TauX.Sub(c.g.B.K.Mul(c.g.Blind.K.Invert()))
		}
		want := first(right(pick&1 == 0, api.ErrFirst), right(pick&2 == 0, api.ErrSecond), right(pick&4 == 0, api.ErrInner))
		c.views(t, "equations", want, api.OK)
	}
}

// Of both equations of a proof that fail the first is told.
func TestP2106OrderOfTheEquations(t *testing.T) {
	whole := newCall(t, shape{2, 5, 3})
	for pick := range 4 {
		c := whole
		if pick&1 != 0 {
			c.proof.TauX = c.proof.TauX.Add(num(1)) // the first alone
		}
		if pick&2 != 0 {
			c.proof.Ea = c.proof.Ea.Add(num(1)) // the second alone
		}
		want := first(right(pick&1 == 0, api.ErrFirst), right(pick&2 == 0, api.ErrSecond))
		errno(t, "Rounds", arith.Rounds(c.g, c.s, c.v, c.proof, &oracle{list: c.given}), want)
	}
}
