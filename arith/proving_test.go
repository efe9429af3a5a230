package arith_test

// P2105, P2110 and P2112: proofs, what is said for them, and that they are accepted.

import (
	"math/big"
	"slices"
	"testing"

	"veil/api"
	"veil/arith"
	"veil/circuit"
	"veil/gadget"
	"veil/gens"
	"veil/ipa"
	"veil/msm"
	"veil/sample"
	"veil/scalar"
	"veil/transcript"
)

// most: what Once may cost.
func most(s *circuit.System) int {
	n, rounds := 1, 0
	for n < s.Gates() {
		n, rounds = 2*n, rounds+1
	}
	return msm.Bound(2*n + s.Values() + 2*rounds + 11)
}

// shown: a proof must be accepted by all verifiers, whose Oracles answer as the prover's.
func shown[P msm.Group[P]](t *testing.T, what string, g gens.Set[P], s *circuit.System, a circuit.Assignment, blinds []scalar.Scalar, tape arith.Tape, oracle func() transcript.Oracle) {
	t.Helper()
	v, x, e := arith.Prove(g, s, a, blinds, tape, oracle())
	errno(t, what+": Prove", e, api.OK)
	errno(t, what+": Rounds", arith.Rounds(g, s, v, x, oracle()), api.OK)
	yes, cost := arith.Once(g, s, v, x, oracle())
	if !yes || cost.Adds+cost.Doubles > most(s) {
		t.Errorf("%s: Once: %v, %v", what, yes, cost)
	}
	var zero P
	one, two, _, e := arith.Sides(g, s, v, x, oracle())
	errno(t, what+": Sides", e, api.OK)
	if !one.Same(zero) || !two.Same(zero) {
		t.Errorf("%s: Sides are not neutral", what)
	}
}

func proveOver[P msm.Group[P]](t *testing.T, m *sample.Maker, kind sample.Kind[P], shapes []shape) {
	t.Helper()
	for _, h := range shapes {
		w, k := anyCase(m, kind, h)
		a := anyAsked(m, w.system)
		x := w.said(k, a)
		o, s := answering(m, a), systemOf(m, w.system)
		v, proof, e := arith.Prove(setOf(m, kind, w), s, assignmentOf(m, k), limbs(m, k.blinds), tapeOf(m, k), o)
		errno(t, "Prove over "+kind.Name, e, api.OK)
		are(t, "Prove: commitments", kind, v, x.v...)
		isProof(t, "Prove", kind, proof, x)
		heard(t, "Prove over "+kind.Name, o.heard, saidOf(kind, w.system, x, 99)...)

		g, assignment, blinds, tape := setOf(m, kind, w), assignmentOf(m, k), limbs(m, k.blinds), tapeOf(m, k)
		given := limbs(m, a.list())
		shown(t, "an Oracle of the test's own", g, s, assignment, blinds, tape, func() transcript.Oracle { return &oracle{list: given, e: api.ErrTx} })
		shown(t, "a script", g, s, assignment, blinds, tape, func() transcript.Oracle { return transcript.Given(given...) })
		shown(t, "a transcript", g, s, assignment, blinds, tape, func() transcript.Oracle { return transcript.New("shown") })
	}
}

func TestP2105P2110Prove(t *testing.T) {
	t.Parallel()
	m := sample.Maker(2105)
	for range 2 {
		proveOver(t, &m, sample.Lines(), small())
		proveOver(t, &m, sample.Frees(), small())
		proveOver(t, &m, sample.Boxes(), small())
	}
	proveOver(t, &m, sample.Lines(), []shape{{16, 16, 20}, {4, 33, 40}})
	proveOver(t, &m, sample.Points(), few())
}

// Each number of gates up to a size, and some beyond.
func TestP2110AllSizes(t *testing.T) {
	t.Parallel()
	m := sample.Maker(2110)
	for _, gates := range append(upTo(40), 63, 64, 65, 500, 1023, 1024) {
		h := shape{min(gates, gates%17), gates, gates % 11}
		k := anySecret(&m, h)
		s := systemOf(&m, anySystem(&m, h, k))
		g, _ := gens.Lines([]byte("all"), arith.Size(s))
		shown(t, "a transcript", g, s, assignmentOf(&m, k), limbs(&m, k.blinds), tapeOf(&m, k), func() transcript.Oracle { return transcript.New("all") })
	}
}

func upTo(n int) []int {
	var list []int
	for i := range n {
		list = append(list, i)
	}
	return list
}

func TestP2110StandardGenerators(t *testing.T) {
	t.Parallel()
	m := sample.Maker(21100)
	for _, h := range []shape{{0, 0, 3}, {1, 1, 1}, {2, 5, 4}, {16, 64, 10}, {3, 1024, 99}} {
		k := anySecret(&m, h)
		s := systemOf(&m, anySystem(&m, h, k))
		g, _ := gens.Standard(arith.Size(s))
		shown(t, "a transcript", g, s, assignmentOf(&m, k), limbs(&m, k.blinds), tapeOf(&m, k), func() transcript.Oracle { return transcript.New("standard") })
	}
}

func TestP2110Basis(t *testing.T) {
	t.Parallel()
	m := sample.Maker(21103)
	for _, h := range append(small(), shape{2, 17, 5}) {
		k := anySecret(&m, h)
		s := systemOf(&m, anySystem(&m, h, k))
		g, _ := gens.Basis(arith.Size(s))
		shown(t, "a transcript", g, s, assignmentOf(&m, k), limbs(&m, k.blinds), tapeOf(&m, k), func() transcript.Oracle { return transcript.New("basis") })
	}
}

// Generators may be any: neutral, the same, related; a tape and blindings may be nothing but zeros.
func TestP2110AnyGenerators(t *testing.T) {
	m := sample.Maker(21101)
	for _, h := range small() {
		for _, n := range []int64{0, 1, -1} {
			k := anySecret(&m, h)
			s := systemOf(&m, anySystem(&m, h, k))
			size := arith.Size(s)
			g := gens.Set[msm.Line]{B: line(n), Blind: line(n), Q: line(n)}
			for range size {
				g.G, g.H = append(g.G, line(n)), append(g.H, line(n))
			}
			nothing := arith.Tape{SL: make([]scalar.Scalar, size), SR: make([]scalar.Scalar, size)}
			script := func() transcript.Oracle { return transcript.New("any") }
			shown(t, "any tape", g, s, assignmentOf(&m, k), limbs(&m, k.blinds), tapeOf(&m, k), script)
			shown(t, "no tape", g, s, assignmentOf(&m, k), make([]scalar.Scalar, h.values), nothing, script)
		}
	}
}

// What a desk has built, with the numbers that it knows.
func TestP2110WhatADeskHasBuilt(t *testing.T) {
	t.Parallel()
	d, _ := gadget.Known(num(77), num(200))
	x, _ := d.Value(0)
	y, _ := d.Value(1)
	for _, e := range []api.Errno{d.Less(x, y, 8), d.NotZero(x), d.Member(y, nums(5, 200, 7)), d.Shuffle([]circuit.Lin{x, y}, []circuit.Lin{y, x}, num(99))} {
		errno(t, "the desk", e, api.OK)
	}
	s := d.System()
	a, ok := d.Assignment()
	if !ok || s.Holds(a) != api.OK {
		t.Fatal("the desk's assignment does not hold")
	}
	m := sample.Maker(21102)
	size := arith.Size(s)
	tape, e := arith.ReadTape(s, m.Bytes(64*(2*size+8)))
	errno(t, "ReadTape", e, api.OK)
	lines, _ := gens.Lines([]byte("desk"), size)
	shown(t, "over Line", lines, s, a, nums(5, 6), tape, func() transcript.Oracle { return transcript.New("desk") })
	points, _ := gens.Standard(size)
	shown(t, "over Point", points, s, a, nums(5, 6), tape, func() transcript.Oracle { return transcript.New("desk") })

	// The values the other way round: no proof.
	d, _ = gadget.Known(num(200), num(77))
	x, _ = d.Value(0)
	y, _ = d.Value(1)
	errno(t, "the desk", d.Less(x, y, 8), api.OK)
	a, _ = d.Assignment()
	s = d.System()
	size = arith.Size(s)
	tape, _ = arith.ReadTape(s, m.Bytes(64*(2*size+8)))
	v, p, e := arith.Prove(lines, s, a, nums(5, 6), tape, transcript.New("desk"))
	noProof(t, "Prove", v, p, e, s.Holds(a))
	if e != api.ErrGate && e != api.ErrRequire {
		t.Errorf("Prove: %d", e)
	}
}

// An assignment that does not hold: no proof, and nothing was said.
func TestP2105AssignmentsThatDoNotHold(t *testing.T) {
	t.Parallel()
	m := sample.Maker(21050)
	kind := sample.Lines()
	met := map[api.Errno]int{}
	for range 3 {
		for _, h := range small() {
			w, k := anyCase(&m, kind, h)
			s, g := systemOf(&m, w.system), setOf(&m, kind, w)
			for _, other := range wrongs(&m, k) {
				multiplies, met2 := true, true
				for i := range other.aL {
					multiplies = multiplies && times(other.aL[i], other.aR[i]).Cmp(other.aO[i]) == 0
				}
				for _, r := range w.requires {
					met2 = met2 && other.eval(r).Sign() == 0
				}
				want := first(right(multiplies, api.ErrGate), right(met2, api.ErrRequire))
				met[want]++
				o := answering(&m, anyAsked(&m, w.system))
				v, x, e := arith.Prove(g, s, assignmentOf(&m, other), limbs(&m, other.blinds), tapeOf(&m, other), o)
				if want != api.OK {
					noProof(t, "Prove", v, x, e, want)
					heard(t, "Prove", o.heard)
				} else {
					errno(t, "Prove", e, want)
				}
				assignment, blinds, tape := assignmentOf(&m, other), limbs(&m, other.blinds), tapeOf(&m, other)
				for _, zero := range zeros() {
					v, view, e := arith.Play(g, s, assignment, blinds, tape, num(1), zero, num(1))
					noView(t, "Play", v, view, e, first(want, api.ErrZero))
				}
			}
		}
	}
	if met[api.ErrGate] == 0 || met[api.ErrRequire] == 0 {
		t.Errorf("met %v", met)
	}
}

// An Oracle's error, or a 0, at each of its Draws.
func endedOver[P msm.Group[P]](t *testing.T, m *sample.Maker, kind sample.Kind[P], h shape) {
	t.Helper()
	w, k := anyCase(m, kind, h)
	a := anyAsked(m, w.system)
	g, s := setOf(m, kind, w), systemOf(m, w.system)
	x := w.said(k, a)
	v, proof := elements(m, kind, x.v), proofOf(m, kind, x)
	all := a.list()
	for good := range all {
		said := saidOf(kind, w.system, x, good+1)
		run := func(what string, o func() *oracle, want api.Errno) {
			t.Helper()
			now := o()
			list, y, e := arith.Prove(g, s, assignmentOf(m, k), limbs(m, k.blinds), tapeOf(m, k), now)
			noProof(t, "Prove: "+what, list, y, e, want)
			heard(t, "Prove: "+what, now.heard, said...)
			now = o()
			errno(t, "Rounds: "+what, arith.Rounds(g, s, v, proof, now), want)
			heard(t, "Rounds: "+what, now.heard, said...)
			now = o()
			one, two, c, e := arith.Sides(g, s, v, proof, now)
			errno(t, "Sides: "+what, e, want)
			heard(t, "Sides: "+what, now.heard, said...)
			are(t, "Sides: "+what, kind, []P{one, two}, numbers{}, numbers{})
			if c != (scalar.Scalar{}) {
				t.Errorf("Sides: %s: a weight beside an error", what)
			}
			now = o()
			yes, cost := arith.Once(g, s, v, proof, now)
			heard(t, "Once: "+what, now.heard, said...)
			if yes || cost != (msm.Cost{}) {
				t.Errorf("Once: %s: %v, %v", what, yes, cost)
			}
		}
		given := limbs(m, all[:good])
		for _, e := range []api.Errno{api.ErrArg, api.ErrZero, api.ErrShort, api.ErrFold, api.ErrSystem, 77, -1} {
			run("an error", func() *oracle { return &oracle{list: given, e: e} }, e)
		}
		for _, zero := range zeros() {
			list := append(slices.Clip(given), zero, num(5))
			run("0 with OK", func() *oracle { return &oracle{list: list} }, api.ErrZero)
		}
	}
}

func TestP2105P2106P2107ErrorsOfTheOracle(t *testing.T) {
	t.Parallel()
	m := sample.Maker(21051)
	endedOver(t, &m, sample.Lines(), shape{0, 0, 1})
	endedOver(t, &m, sample.Lines(), shape{1, 1, 1})
	endedOver(t, &m, sample.Lines(), shape{2, 5, 3})
	endedOver(t, &m, sample.Frees(), shape{1, 3, 2})
	endedOver(t, &m, sample.Boxes(), shape{2, 2, 2})
	endedOver(t, &m, sample.Points(), shape{1, 2, 1})
}

// Oracles that hold a nil pointer, and such as nobody made, answer for themselves.
func TestP2105P2106OraclesThatAreNone(t *testing.T) {
	g, s, a, blinds, tape := exampleSet(), exampleSystem(), exampleAssignment(), nums(1), exampleTape()
	v, x := exampleProof(t)
	for _, o := range []transcript.Oracle{(*transcript.T)(nil), (*transcript.Script)(nil), new(transcript.T), new(transcript.Script)} {
		list, y, e := arith.Prove(g, s, a, blinds, tape, o)
		noProof(t, "Prove", list, y, e, api.ErrArg)
		errno(t, "Rounds", arith.Rounds(g, s, v, x, o), api.ErrArg)
		if yes, cost := arith.Once(g, s, v, x, o); yes || cost != (msm.Cost{}) {
			t.Errorf("Once: %v, %v", yes, cost)
		}
	}
	// They are not asked where something else is wrong ahead of that.
	a.O = nums(10)
	_, _, e := arith.Prove(g, s, a, blinds, tape, (*transcript.T)(nil))
	errno(t, "Prove", e, api.ErrGate)
}

// The moves and the proof say the same.
func sameOver[P msm.Group[P]](t *testing.T, m *sample.Maker, kind sample.Kind[P], shapes []shape) {
	t.Helper()
	for _, h := range shapes {
		world, k := anyCase(m, kind, h)
		a := anyAsked(m, world.system)
		g, s := setOf(m, kind, world), systemOf(m, world.system)
		v, x, e := arith.Prove(g, s, assignmentOf(m, k), limbs(m, k.blinds), tapeOf(m, k), answering(m, a))
		errno(t, "Prove", e, api.OK)
		list, w, e := arith.Play(g, s, assignmentOf(m, k), limbs(m, k.blinds), tapeOf(m, k), m.Limbs(a.y), m.Limbs(a.z), m.Limbs(a.x))
		errno(t, "Play", e, api.OK)
		about, e := arith.Statement(g, s, w, m.Limbs(a.w))
		errno(t, "Statement", e, api.OK)
		argument, e := ipa.Prove(about.Q, about.G, about.H, w.L, w.R, &oracle{list: limbs(m, a.us), e: api.ErrTx})
		errno(t, "ipa.Prove", e, api.OK)

		said := []P{x.AI, x.AO, x.S, x.T1, x.T3, x.T4, x.T5, x.T6}
		viewed := []P{w.AI, w.AO, w.S, w.T1, w.T3, w.T4, w.T5, w.T6}
		if !slices.EqualFunc(v, list, P.Same) || !slices.EqualFunc(said, viewed, P.Same) || x.TauX != w.TauX || x.Mu != w.Mu || x.That != w.That {
			t.Errorf("over %s: the proof says other than the view", kind.Name)
		}
		if !slices.EqualFunc(x.L, argument.L, P.Same) || !slices.EqualFunc(x.R, argument.R, P.Same) || x.Ea != argument.A || x.Eb != argument.B {
			t.Errorf("over %s: the proof says other than the argument", kind.Name)
		}
		errno(t, "ipa.Verify", ipa.Verify(about, argument, limbs(m, a.us)), api.OK)
	}
}

func TestP2112TheMovesAndTheProof(t *testing.T) {
	t.Parallel()
	m := sample.Maker(2112)
	for range 2 {
		sameOver(t, &m, sample.Lines(), small())
		sameOver(t, &m, sample.Frees(), small())
		sameOver(t, &m, sample.Boxes(), small())
	}
	sameOver(t, &m, sample.Lines(), []shape{{3, 60, 20}})
	sameOver(t, &m, sample.Points(), few())
}

// meddler: an Oracle that goes on building the system that it is told of, and writes into lists that were handed in.
type meddler struct {
	oracle
	s     *circuit.System
	lists [][]scalar.Scalar
}

func (o *meddler) Draw(label string) (scalar.Scalar, api.Errno) {
	for _, list := range o.lists {
		for i := range list {
			list[i] = num(44)
		}
	}
	for range 3 {
		left, _, _, _ := o.s.Gate()
		o.s.Require(circuit.Of(left).Add(circuit.Const(num(9))))
	}
	return o.oracle.Draw(label)
}

// What becomes of a system, and of a prover's lists, while an Oracle is asked is not seen: the proof is about what was handed in.
func TestP2105P2106AnOracleThatBuilds(t *testing.T) {
	m := sample.Maker(21052)
	kind := sample.Lines()
	for _, h := range small() {
		w, k := anyCase(&m, kind, h)
		a := anyAsked(&m, w.system)
		x := w.said(k, a)
		g := setOf(&m, kind, w)
		made := func() (*circuit.System, *meddler) {
			s := systemOf(&m, w.system)
			return s, &meddler{oracle: oracle{list: limbs(&m, a.list())}, s: s}
		}
		s, o := made()
		assignment, blinds, tape := assignmentOf(&m, k), limbs(&m, k.blinds), tapeOf(&m, k)
		o.lists = [][]scalar.Scalar{assignment.L, assignment.R, assignment.O, assignment.V, blinds, tape.SL, tape.SR}
		v, proof, e := arith.Prove(g, s, assignment, blinds, tape, o)
		errno(t, "Prove", e, api.OK)
		isProof(t, "Prove", kind, proof, x)
		heard(t, "Prove", o.heard, saidOf(kind, w.system, x, 99)...)
		s, o = made()
		errno(t, "Rounds", arith.Rounds(g, s, v, proof, o), api.OK)
		s, o = made()
		if yes, _ := arith.Once(g, s, v, proof, o); !yes {
			t.Error("Once: false")
		}
		proof.TauX = proof.TauX.Add(num(1))
		s, o = made()
		one, two, c, e := arith.Sides(g, s, v, proof, o)
		errno(t, "Sides", e, api.OK)
		are(t, "Sides", kind, []msm.Line{one, two}, w.blind, numbers{new(big.Int)})
		told(t, "Sides", []scalar.Scalar{c}, a.c)
	}
}
