package ideal_test

// The examples of the chapter, by their numbers.

import (
	"testing"

	"veil/api"
	"veil/gens"
	"veil/ideal"
	"veil/msm"
	"veil/ranges"
)

func exampleSet() gens.Set[msm.Line] {
	return gens.Set[msm.Line]{B: line(1), Blind: line(2), Q: line(3), G: []msm.Line{line(5)}, H: []msm.Line{line(7)}}
}

func exampleParams() api.Params { return api.Params{Bits: 1, Count: 1} }

func exampleOpenings() []ranges.Opening { return []ranges.Opening{{V: 1, Blind: num(4)}} }

func exampleTape() ideal.Tape[msm.Line] { return ideal.Tape[msm.Line]{L: nums(1), R: nums(1)} }

func exampleView(t *testing.T) ranges.View[msm.Line] {
	t.Helper()
	w, e := ideal.Simulate(exampleSet(), exampleParams(), []msm.Line{line(9)}, num(1), num(2), num(1), exampleTape())
	errno(t, "Simulate", e, api.OK)
	return w
}

func TestExample1Simulate(t *testing.T) {
	delta, e := ranges.Delta(exampleParams(), num(1), num(2))
	if e != api.OK || delta != num(-10) {
		t.Errorf("Delta: %v, %d", delta, e)
	}
	w := exampleView(t)
	if w.That != num(1) || w.T1 != line(-25) || w.A != line(-20) || w.S != line(0) || w.T2 != line(0) || w.TauX != num(0) || w.Mu != num(0) {
		t.Errorf("Simulate: %v", w)
	}
	if w.Y != num(1) || w.Z != num(2) || w.X != num(1) || len(w.L) != 1 || w.L[0] != num(1) || len(w.R) != 1 || w.R[0] != num(1) {
		t.Errorf("Simulate: %v", w)
	}
}

func TestExample2Accepted(t *testing.T) {
	w := exampleView(t)
	errno(t, "Accepts", ranges.Accepts(exampleSet(), exampleParams(), []msm.Line{line(9)}, w), api.OK)
	_, s, h, e := ranges.Statement(exampleSet(), exampleParams(), w, num(1))
	if e != api.OK || s != line(12+3) || len(h) != 1 || h[0] != line(7) { // P + That Q
		t.Errorf("Statement: %v, %v, %d", s, h, e)
	}
}

func TestExample3Match(t *testing.T) {
	m, e := ideal.Match(exampleSet(), exampleParams(), exampleOpenings(), num(1), num(2), num(1), ranges.Tape{SL: nums(0), SR: nums(0)})
	want := ideal.Tape[msm.Line]{L: nums(-1), R: nums(6), TauX: num(16)}
	if e != api.OK || !sameMade(m, want) {
		t.Errorf("Match: %v, %d", m, e)
	}
	b, e := ideal.Back(exampleSet(), exampleParams(), exampleOpenings(), num(1), num(2), num(1), want)
	if e != api.OK || !sameTapes(b, ranges.Tape{SL: nums(0), SR: nums(0)}) {
		t.Errorf("Back: %v, %d", b, e)
	}
}

func TestExample4Errors(t *testing.T) {
	g, p, vs := exampleSet(), exampleParams(), exampleOpenings()
	_, e := ideal.Simulate(g, p, []msm.Line{line(9)}, num(1), num(2), num(0), exampleTape())
	errno(t, "Simulate with x = 0", e, api.ErrZero)
	_, e = ideal.Match(g, p, vs, num(1), num(2), num(0), ranges.Tape{SL: nums(0), SR: nums(0)})
	errno(t, "Match with x = 0", e, api.ErrZero)
	_, e = ideal.Back(g, p, vs, num(1), num(2), num(0), exampleTape())
	errno(t, "Back with x = 0", e, api.ErrZero)
	g.Blind = line(0)
	_, e = ideal.Back(g, p, vs, num(1), num(2), num(1), exampleTape())
	errno(t, "Back with Blind = 0", e, api.ErrSingular)
}

// The opening of the examples by the tape of chapter 13's: what the prover says there, the simulator says with Match.
func TestExampleOfTheProver(t *testing.T) {
	g, p, vs := exampleSet(), exampleParams(), exampleOpenings()
	tape := ranges.Tape{Alpha: num(1), Rho: num(2), SL: nums(3), SR: nums(4), Tau1: num(5), Tau2: num(6)}
	m, e := ideal.Match(g, p, vs, num(1), num(2), num(1), tape)
	if e != api.OK || !sameMade(m, ideal.Tape[msm.Line]{L: nums(2), R: nums(10), TauX: num(27), Mu: num(3), S: line(47), T2: line(24)}) {
		t.Errorf("Match: %v, %d", m, e)
	}
	w, e := ideal.Simulate(g, p, []msm.Line{line(9)}, num(1), num(2), num(1), m)
	if e != api.OK || w.A != line(7) || w.T1 != line(24) || w.That != num(20) {
		t.Errorf("Simulate: %v, %d", w, e)
	}
	b, e := ideal.Back(g, p, vs, num(1), num(2), num(1), m)
	if e != api.OK || !sameTapes(b, tape) {
		t.Errorf("Back: %v, %d", b, e)
	}
}
