package arith_test

// The examples of the chapter, by their numbers.

import (
	"slices"
	"testing"

	"veil/api"
	"veil/arith"
	"veil/circuit"
	"veil/gens"
	"veil/msm"
	"veil/scalar"
	"veil/transcript"
)

func exampleSet() gens.Set[msm.Line] {
	return gens.Set[msm.Line]{B: line(1), Blind: line(2), Q: line(3), G: lines(5), H: lines(7)}
}

// exampleSystem: one value, and right - left = 0.
func exampleSystem() *circuit.System {
	s, _ := circuit.New(1)
	left, right := circuit.Of(circuit.Wire{Kind: api.WireLeft}), circuit.Of(circuit.Wire{Kind: api.WireRight})
	s.Require(right.Sub(left))
	return s
}

func exampleAssignment() circuit.Assignment {
	return circuit.Assignment{L: nums(3), R: nums(3), O: nums(9), V: nums(3)}
}

func exampleTape() arith.Tape {
	return arith.Tape{Alpha: num(1), Beta: num(1), Rho: num(1), SL: nums(1), SR: nums(1)}
}

func exampleView(t *testing.T) ([]msm.Line, arith.View[msm.Line]) {
	t.Helper()
	v, w, e := arith.Play(exampleSet(), exampleSystem(), exampleAssignment(), nums(1), exampleTape(), num(1), num(2), num(1))
	errno(t, "Play", e, api.OK)
	return v, w
}

// exampleProof: with w = 5 and c = 7.
func exampleProof(t *testing.T) ([]msm.Line, arith.Proof[msm.Line]) {
	t.Helper()
	v, x, e := arith.Prove(exampleSet(), exampleSystem(), exampleAssignment(), nums(1), exampleTape(), transcript.Given(nums(1, 2, 1, 5, 7)...))
	errno(t, "Prove", e, api.OK)
	return v, x
}

func TestExample1Weights(t *testing.T) {
	s := exampleSystem()
	if arith.Size(s) != 1 || s.Gates() != 1 || s.Requires() != 2 {
		t.Errorf("N = %d, K = %d, Q = %d", arith.Size(s), s.Gates(), s.Requires())
	}
	w, e := s.Flatten(num(2))
	if e != api.OK || !slices.Equal(w.L, nums(-2)) || !slices.Equal(w.R, nums(4)) || !slices.Equal(w.O, nums(0)) || !slices.Equal(w.V, nums(2)) || w.C != num(0) {
		t.Errorf("Flatten: %v, %d", w, e)
	}
}

func TestExample2Elements(t *testing.T) {
	v, w := exampleView(t)
	if len(v) != 1 || v[0] != line(5) || w.AI != line(38) || w.AO != line(47) || w.S != line(14) {
		t.Errorf("Play: %v, %v", v, w)
	}
}

func TestExample3Coefficients(t *testing.T) {
	_, w := exampleView(t)
	if w.T1 != line(-7) || w.T3 != line(8) || w.T4 != line(8) || w.T5 != line(9) || w.T6 != line(1) {
		t.Errorf("Play: %v", w)
	}
}

func TestExample4Accepted(t *testing.T) {
	v, w := exampleView(t)
	if !slices.Equal(w.L, nums(17)) || !slices.Equal(w.R, nums(1)) || w.That != num(17) || w.TauX != num(2) || w.Mu != num(3) {
		t.Errorf("Play: %v", w)
	}
	errno(t, "Accepts", arith.Accepts(exampleSet(), exampleSystem(), v, w), api.OK)
	s, e := arith.Statement(exampleSet(), exampleSystem(), w, num(2))
	if e != api.OK || s.P != line(92+17*6) || s.Q != line(6) || !slices.Equal(s.G, lines(5)) || !slices.Equal(s.H, lines(7)) {
		t.Errorf("Statement: %v, %d", s, e)
	}
}

func TestExample5Refused(t *testing.T) {
	play := func(what string, want api.Errno, x int64, blinds []scalar.Scalar, turn func(a *circuit.Assignment)) {
		t.Helper()
		a := exampleAssignment()
		turn(&a)
		v, w, e := arith.Play(exampleSet(), exampleSystem(), a, blinds, exampleTape(), num(1), num(2), num(x))
		noView(t, what, v, w, e, want)
	}
	play("O = [10]", api.ErrGate, 1, nums(1), func(a *circuit.Assignment) { a.O = nums(10) })
	play("R = [4], O = [12]", api.ErrRequire, 1, nums(1), func(a *circuit.Assignment) { a.R, a.O = nums(4), nums(12) })
	play("no blindings", api.ErrLength, 1, nil, func(*circuit.Assignment) {})
	play("x = 0", api.ErrZero, 0, nums(1), func(*circuit.Assignment) {})
}

func TestExample6Sizes(t *testing.T) {
	for gates, want := range map[int]int{0: 416, 3: 544} {
		s := gated(0, gates)
		size := arith.Size(s)
		stream := make([]byte, 64*(2*size+8))
		none := make([]scalar.Scalar, gates)
		_, proof, e := arith.ProveBytes(s, "label", circuit.Assignment{L: none, R: none, O: none}, nil, stream)
		if e != api.OK || len(proof) != want {
			t.Errorf("%d gates: %d bytes, %d", gates, len(proof), e)
		}
		_, e = arith.ReadTape(s, stream)
		errno(t, "ReadTape", e, api.OK)
		_, e = arith.ReadTape(s, stream[1:])
		errno(t, "ReadTape of a byte less", e, api.ErrShort)
	}
	if n := arith.Size(gated(0, 0)); n != 1 {
		t.Errorf("Size without gates: %d", n)
	}
	if n := arith.Size(gated(0, 3)); n != 4 {
		t.Errorf("Size of three gates: %d", n)
	}
}

func TestExample7NoWeight(t *testing.T) {
	v, x := exampleProof(t)
	yes, cost := arith.Once(exampleSet(), exampleSystem(), v, x, transcript.Given(nums(1, 2, 1, 5)...))
	if yes || cost != (msm.Cost{}) {
		t.Errorf("Once: %v, %v", yes, cost)
	}
	one, two, c, e := arith.Sides(exampleSet(), exampleSystem(), v, x, transcript.Given(nums(1, 2, 1, 5)...))
	if e != api.ErrShort || one != line(0) || two != line(0) || c != num(0) {
		t.Errorf("Sides: %v, %v, %v, %d", one, two, c, e)
	}
}

func TestExample8NoSystem(t *testing.T) {
	v, w := exampleView(t)
	for _, s := range noSystems() {
		if arith.Size(s) != 0 || arith.VerifyBytes(s, "label", nil, make([]byte, 416)) {
			t.Error("Size, VerifyBytes without a system")
		}
		_, e := arith.ReadTape(s, make([]byte, 640))
		errno(t, "ReadTape", e, api.ErrArg)
		list, view, e := arith.Play(exampleSet(), s, exampleAssignment(), nums(1), exampleTape(), num(1), num(2), num(1))
		noView(t, "Play", list, view, e, api.ErrArg)
		errno(t, "Accepts", arith.Accepts(exampleSet(), s, v, w), api.ErrArg)
		errno(t, "Explain", arith.Explain(s, "label", nil, make([]byte, 416)), api.ErrArg)
	}
}

// A proof whose that is one too great: the one sum takes it with just one c.
func TestP2111TheExampleWithAnotherThat(t *testing.T) {
	v, x := exampleProof(t)
	x.That = num(18)
	for _, c := range []struct {
		c    int64
		once bool
	}{{1, false}, {-15, true}, {15, false}, {-16, false}} {
		script := func() transcript.Oracle { return transcript.Given(nums(1, 2, 1, 5, c.c)...) }
		one, two, weight, e := arith.Sides(exampleSet(), exampleSystem(), v, x, script())
		if e != api.OK || one != line(1) || two != line(15) || weight != num(c.c) {
			t.Errorf("Sides: %v, %v, %v, %d", one, two, weight, e)
		}
		if yes, _ := arith.Once(exampleSet(), exampleSystem(), v, x, script()); yes != c.once {
			t.Errorf("Once with c = %d: %v", c.c, yes)
		}
		errno(t, "Rounds", arith.Rounds(exampleSet(), exampleSystem(), v, x, script()), api.ErrFirst)
	}
}
