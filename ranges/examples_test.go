package ranges_test

// The examples of the chapter, by their numbers.

import (
	"testing"

	"veil/api"
	"veil/gens"
	"veil/ipa"
	"veil/msm"
	"veil/ranges"
	"veil/scalar"
	"veil/transcript"
	"veil/wire"
)

func exampleSet() gens.Set[msm.Line] {
	return gens.Set[msm.Line]{B: line(1), Blind: line(2), Q: line(3), G: []msm.Line{line(5)}, H: []msm.Line{line(7)}}
}

func exampleParams() api.Params { return api.Params{Bits: 1, Count: 1} }

func exampleOpenings() []ranges.Opening { return []ranges.Opening{{V: 1, Blind: num(4)}} }

func exampleTape() ranges.Tape {
	return ranges.Tape{Alpha: num(1), Rho: num(2), SL: nums(3), SR: nums(4), Tau1: num(5), Tau2: num(6)}
}

// exampleBegin: the prover of the examples, with what it says first.
func exampleBegin(t *testing.T) (*ranges.Prover[msm.Line], []msm.Line, ranges.View[msm.Line]) {
	t.Helper()
	r, v, w, e := ranges.Begin(exampleSet(), exampleParams(), exampleOpenings(), exampleTape())
	errno(t, "Begin", e, api.OK)
	return r, v, w
}

// exampleView: the whole view of the examples.
func exampleView(t *testing.T) ([]msm.Line, ranges.View[msm.Line]) {
	t.Helper()
	r, v, _ := exampleBegin(t)
	_, e := r.Middle(num(1), num(2))
	errno(t, "Middle", e, api.OK)
	w, e := r.Finish(num(1))
	errno(t, "Finish", e, api.OK)
	return v, w
}

func TestExample1Begin(t *testing.T) {
	_, v, w := exampleBegin(t)
	if len(v) != 1 || v[0] != line(9) || w.A != line(7) || w.S != line(47) {
		t.Errorf("Begin: %v, %v", v, w)
	}
}

func TestExample2Middle(t *testing.T) {
	r, _, _ := exampleBegin(t)
	w, e := r.Middle(num(1), num(2))
	if e != api.OK || w.T1 != line(24) || w.T2 != line(24) || w.Y != num(1) || w.Z != num(2) || w.A != line(7) || w.S != line(47) {
		t.Errorf("Middle: %v, %d", w, e)
	}
	d, e := ranges.Delta(exampleParams(), num(1), num(2))
	if e != api.OK || d != num(-10) {
		t.Errorf("Delta: %v, %d", d, e)
	}
}

func TestExample3Finish(t *testing.T) {
	v, w := exampleView(t)
	if w.L[0] != num(2) || w.R[0] != num(10) || len(w.L) != 1 || len(w.R) != 1 || w.That != num(20) || w.TauX != num(27) || w.Mu != num(3) {
		t.Errorf("Finish: %v", w)
	}
	errno(t, "Accepts", ranges.Accepts(exampleSet(), exampleParams(), v, w), api.OK)
}

func TestExample4Refused(t *testing.T) {
	v, whole := exampleView(t)
	turned := func(what string, want api.Errno, turn func(w *ranges.View[msm.Line])) {
		t.Helper()
		w := whole
		turn(&w)
		errno(t, what, ranges.Accepts(exampleSet(), exampleParams(), v, w), want)
	}
	turned("That = 21", api.ErrFirst, func(w *ranges.View[msm.Line]) { w.That = num(21) })
	turned("L = [3]", api.ErrSecond, func(w *ranges.View[msm.Line]) { w.L = nums(3) })
	turned("X = 0", api.ErrZero, func(w *ranges.View[msm.Line]) { w.X = num(0) })

	r, _, _ := exampleBegin(t)
	_, e := r.Middle(num(0), num(2))
	errno(t, "Middle(0, 2)", e, api.ErrZero)
	_, e = r.Middle(num(1), num(2))
	errno(t, "Middle(1, 2)", e, api.OK)
	_, e = r.Middle(num(1), num(2))
	errno(t, "a second Middle", e, api.ErrPhase)
}

func TestExample5Statement(t *testing.T) {
	_, w := exampleView(t)
	q, s, h, e := ranges.Statement(exampleSet(), exampleParams(), w, num(2))
	if e != api.OK || q != line(6) || s != line(200) || len(h) != 1 || h[0] != line(7) {
		t.Errorf("Statement: %v, %v, %v, %d", q, s, h, e)
	}
	v, x, e := ranges.Prove(exampleSet(), exampleParams(), exampleOpenings(), exampleTape(), transcript.Given(nums(1, 2, 1, 2, 1)...))
	if e != api.OK || x.Ea != num(2) || x.Eb != num(10) || len(x.L) != 0 || len(x.R) != 0 {
		t.Errorf("Prove: %v, %d", x, e)
	}
	about := ipa.Statement[msm.Line]{P: s, Q: q, G: exampleSet().G, H: h}
	errno(t, "Verify", ipa.Verify(about, ipa.Argument[msm.Line]{A: x.Ea, B: x.Eb}, nil), api.OK)
	one, two, c, e := ranges.Sides(exampleSet(), exampleParams(), v, x, transcript.Given(nums(1, 2, 1, 2, 1)...))
	if e != api.OK || one != line(0) || two != line(0) || c != num(1) {
		t.Errorf("Sides: %v, %v, %v, %d", one, two, c, e)
	}
}

func TestExample6Errors(t *testing.T) {
	g, p, tape := exampleSet(), exampleParams(), exampleTape()
	_, _, _, e := ranges.Begin(g, p, []ranges.Opening{{V: 2}}, tape)
	errno(t, "V = 2 of one bit", e, api.ErrValue)
	_, _, _, e = ranges.Begin(g, api.Params{Bits: 8, Count: 3}, exampleOpenings(), tape)
	errno(t, "Params {8, 3}", e, api.ErrParams)
	tape.SL = nil
	_, _, _, e = ranges.Begin(g, p, exampleOpenings(), tape)
	errno(t, "one SL too few", e, api.ErrLength)
	_, e = ranges.ReadTape(api.Params{Bits: 8, Count: 1}, make([]byte, 1279))
	errno(t, "1279 bytes", e, api.ErrShort)
	_, e = ranges.ReadTape(api.Params{Bits: 8, Count: 1}, make([]byte, 1280))
	errno(t, "1280 bytes", e, api.OK)
}

// exampleProof: the proof of the examples by w = 1.
func exampleProof(t *testing.T) ([]msm.Line, wire.Proof[msm.Line]) {
	t.Helper()
	v, x, e := ranges.Prove(exampleSet(), exampleParams(), exampleOpenings(), exampleTape(), transcript.Given(nums(1, 2, 1, 1, 1)...))
	errno(t, "Prove", e, api.OK)
	return v, x
}

func TestExample7Scripts(t *testing.T) {
	v, x := exampleProof(t)
	for _, c := range []struct {
		list []scalar.Scalar
		want api.Errno
	}{{nums(1, 2, 1, 1), api.ErrShort}, {nums(1, 2, 1, 1, 0), api.ErrZero}} {
		yes, cost := ranges.Once(exampleSet(), exampleParams(), v, x, transcript.Given(c.list...))
		if yes || cost != (msm.Cost{}) {
			t.Errorf("Once: %v, %v", yes, cost)
		}
		one, two, weight, e := ranges.Sides(exampleSet(), exampleParams(), v, x, transcript.Given(c.list...))
		errno(t, "Sides", e, c.want)
		if one != line(0) || two != line(0) || weight != num(0) {
			t.Errorf("Sides: %v, %v, %v beside an error", one, two, weight)
		}
	}
}

func TestExample8Bound(t *testing.T) {
	if got := ranges.Bound(exampleParams()); got != msm.Bound(10) {
		t.Errorf("Bound({1, 1}) = %d", got)
	}
	if got := ranges.Bound(api.Params{Bits: 3, Count: 1}); got != 0 {
		t.Errorf("Bound({3, 1}) = %d", got)
	}
}

func TestExample9OneSumTakesWhatRoundsDoesNot(t *testing.T) {
	v, x := exampleProof(t)
	x.That = num(21)
	for _, c := range []struct {
		c    int64
		once bool
	}{{1, false}, {-3, true}, {3, false}, {-4, false}} {
		script := func() transcript.Oracle { return transcript.Given(nums(1, 2, 1, 1, c.c)...) }
		one, two, weight, e := ranges.Sides(exampleSet(), exampleParams(), v, x, script())
		if e != api.OK || one != line(1) || two != line(3) || weight != num(c.c) {
			t.Errorf("Sides: %v, %v, %v, %d", one, two, weight, e)
		}
		if yes, _ := ranges.Once(exampleSet(), exampleParams(), v, x, script()); yes != c.once {
			t.Errorf("Once with c = %d: %v", c.c, yes)
		}
		errno(t, "Rounds", ranges.Rounds(exampleSet(), exampleParams(), v, x, script()), api.ErrFirst)
	}
}

// The document's examples of the whole, 2 to 4, as far as they speak of this layer.
func TestExamplesOfTheWhole(t *testing.T) {
	for _, p := range []api.Params{{Bits: 3, Count: 1}, {Bits: 8, Count: 3}, {Bits: 128, Count: 1}, {Bits: 8, Count: 32}, {Bits: 0, Count: 1}} {
		_, _, e := ranges.ProveBytes(p, "label", make([]ranges.Opening, 1), make([]byte, 99999))
		errno(t, "ProveBytes", e, api.ErrParams)
	}
	eight := api.Params{Bits: 8, Count: 1}
	_, _, e := ranges.ProveBytes(eight, "label", []ranges.Opening{{V: 256}}, make([]byte, 1280))
	errno(t, "256 of 8 bits", e, api.ErrValue)
	_, _, e = ranges.ProveBytes(eight, "label", []ranges.Opening{{V: 255}}, make([]byte, 1279))
	errno(t, "1279 bytes", e, api.ErrShort)
	for p, want := range map[api.Params]int{eight: 480, {Bits: 1, Count: 1}: 288} {
		_, proof, e := ranges.ProveBytes(p, "label", []ranges.Opening{{V: 1}}, make([]byte, 1280))
		if e != api.OK || len(proof) != want {
			t.Errorf("%v: %d bytes, %d", p, len(proof), e)
		}
	}
}
