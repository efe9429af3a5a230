package ranges_test

// P1306, P1310 and P1312: proofs, what is said for them, and that they are accepted.

import (
	"slices"
	"testing"

	"veil/api"
	"veil/gens"
	"veil/ipa"
	"veil/msm"
	"veil/ranges"
	"veil/sample"
	"veil/scalar"
	"veil/transcript"
)

// shown: a proof must be accepted by all verifiers, whose Oracles answer as the prover's.
func shown[P msm.Group[P]](t *testing.T, what string, g gens.Set[P], p api.Params, vs []ranges.Opening, tape ranges.Tape, oracle func() transcript.Oracle) {
	t.Helper()
	v, x, e := ranges.Prove(g, p, vs, tape, oracle())
	errno(t, what+": Prove", e, api.OK)
	errno(t, what+": Rounds", ranges.Rounds(g, p, v, x, oracle()), api.OK)
	yes, cost := ranges.Once(g, p, v, x, oracle())
	if !yes || cost.Adds+cost.Doubles > ranges.Bound(p) {
		t.Errorf("%s: Once: %v, %v", what, yes, cost)
	}
	var zero P
	one, two, _, e := ranges.Sides(g, p, v, x, oracle())
	errno(t, what+": Sides", e, api.OK)
	if !one.Same(zero) || !two.Same(zero) {
		t.Errorf("%s: Sides are not neutral", what)
	}
	terms, e := ranges.Terms(g, p, v, x, oracle())
	errno(t, what+": Terms", e, api.OK)
	if !msm.Plain(terms...).Same(zero) {
		t.Errorf("%s: the terms' sum is not neutral", what)
	}
}

func proveOver[P msm.Group[P]](t *testing.T, m *sample.Maker, kind sample.Kind[P], list []api.Params) {
	t.Helper()
	for _, p := range list {
		w, k, a := anyWorld(m, kind, p), anySecret(m, p), anyAsked(m, p)
		x := w.said(k, a)
		o := answering(m, a)
		v, proof, e := ranges.Prove(setOf(m, kind, w), p, openingsOf(m, k), tapeOf(m, k), o)
		errno(t, "Prove over "+kind.Name, e, api.OK)
		are(t, "Prove: commitments", kind, v, x.v...)
		isProof(t, "Prove", kind, proof, x)
		heard(t, "Prove over "+kind.Name, o.heard, saidOf(kind, p, x, 99)...)

		g, vs, tape := setOf(m, kind, w), openingsOf(m, k), tapeOf(m, k)
		given := limbs(m, a.list())
		shown(t, "an Oracle of the test's own", g, p, vs, tape, func() transcript.Oracle { return &oracle{list: given, e: api.ErrTx} })
		shown(t, "a script", g, p, vs, tape, func() transcript.Oracle { return transcript.Given(given...) })
		shown(t, "a transcript", g, p, vs, tape, func() transcript.Oracle { return transcript.New("shown") })
	}
}

func TestP1306P1310Prove(t *testing.T) {
	t.Parallel()
	m := sample.Maker(1306)
	for range 2 {
		proveOver(t, &m, sample.Lines(), allParams(32))
		proveOver(t, &m, sample.Frees(), allParams(16))
		proveOver(t, &m, sample.Boxes(), allParams(16))
	}
	proveOver(t, &m, sample.Lines(), []api.Params{{Bits: 64, Count: 1}, {Bits: 8, Count: 16}, {Bits: 64, Count: 2}})
	proveOver(t, &m, sample.Points(), allParams(4))
}

// All Params that are allowed, the greatest values and the least.
func TestP1310AllParams(t *testing.T) {
	m := sample.Maker(1310)
	for _, p := range allParams(api.MaxSize) {
		g, _ := gens.Lines([]byte("all"), p.Size())
		k := anySecret(&m, p)
		for j := range k.vs {
			k.vs[j] = uint64(1)<<p.Bits - 1
			if j%2 == 1 {
				k.vs[j] = 0
			}
		}
		shown(t, "a transcript", g, p, openingsOf(&m, k), tapeOf(&m, k), func() transcript.Oracle { return transcript.New("all") })
	}
}

func TestP1310StandardGenerators(t *testing.T) {
	t.Parallel()
	m := sample.Maker(13100)
	for _, p := range []api.Params{{Bits: 1, Count: 1}, {Bits: 8, Count: 1}, {Bits: 4, Count: 16}, {Bits: 64, Count: 1}, {Bits: 64, Count: 16}} {
		g, _ := gens.Standard(p.Size())
		k := anySecret(&m, p)
		shown(t, "a transcript", g, p, openingsOf(&m, k), tapeOf(&m, k), func() transcript.Oracle { return transcript.New("standard") })
	}
}

// Generators may be any: neutral, the same, related; a tape may be nothing but zeros.
func TestP1310AnyGenerators(t *testing.T) {
	m := sample.Maker(13101)
	for _, p := range allParams(8) {
		for _, n := range []int64{0, 1, -1} {
			g := gens.Set[msm.Line]{B: line(n), Blind: line(n), Q: line(n)}
			for range p.Size() {
				g.G, g.H = append(g.G, line(n)), append(g.H, line(n))
			}
			for _, k := range []secret{anySecret(&m, p), {}} {
				vs, tape := openingsOf(&m, k), tapeOfZeros(p)
				if k.vs == nil {
					vs = make([]ranges.Opening, p.Count)
				} else {
					tape = tapeOf(&m, k)
				}
				shown(t, "like generators", g, p, vs, tape, func() transcript.Oracle { return transcript.New("like") })
			}
		}
	}
}

func tapeOfZeros(p api.Params) ranges.Tape {
	return ranges.Tape{SL: make([]scalar.Scalar, p.Size()), SR: make([]scalar.Scalar, p.Size())}
}

// 2^n and more are refused, and nothing is said; of 64 bits nothing is.
func TestP1306Values(t *testing.T) {
	m := sample.Maker(13060)
	for _, p := range allParams(64) {
		g, _ := gens.Lines([]byte("values"), p.Size())
		k := anySecret(&m, p)
		top := uint64(1) << p.Bits // 0 for 64 bits
		for j := range k.vs {
			for _, v := range []uint64{top, top + 1, top * 2, 1<<64 - 1} {
				bad := openingsOf(&m, k)
				bad[j].V = v
				o := &oracle{list: limbs(&m, anyAsked(&m, p).list())}
				want := right(p.Bits == 64, api.ErrValue)
				list, x, e := ranges.Prove(g, p, bad, tapeOf(&m, k), o)
				r, _, view, e2 := ranges.Begin(g, p, bad, tapeOf(&m, k))
				errno(t, "Begin", e2, want)
				errno(t, "Prove", e, want)
				if want != api.OK {
					noProof(t, "Prove", list, x, e, want)
					noView(t, "Begin", view, e2, want)
					heard(t, "Prove", o.heard)
					if r != nil {
						t.Error("Begin: a prover beside an error")
					}
				}
			}
		}
	}
}

// endedOver: the Oracle ends it at some Draw, by an error or by a 0 with OK: what was said up to there was said.
func endedOver[P msm.Group[P]](t *testing.T, m *sample.Maker, kind sample.Kind[P], p api.Params) {
	t.Helper()
	w, k, a := anyWorld(m, kind, p), anySecret(m, p), anyAsked(m, p)
	g := setOf(m, kind, w)
	x := w.said(k, a)
	v, proof := elements(m, kind, x.v), proofOf(m, kind, x)
	all := a.list()
	for good := range all {
		said := saidOf(kind, p, x, good+1)
		run := func(what string, o func() *oracle, want api.Errno) {
			t.Helper()
			now := o()
			list, y, e := ranges.Prove(g, p, openingsOf(m, k), tapeOf(m, k), now)
			noProof(t, "Prove: "+what, list, y, e, want)
			heard(t, "Prove: "+what, now.heard, said...)
			now = o()
			errno(t, "Rounds: "+what, ranges.Rounds(g, p, v, proof, now), want)
			heard(t, "Rounds: "+what, now.heard, said...)
			now = o()
			one, two, c, e := ranges.Sides(g, p, v, proof, now)
			errno(t, "Sides: "+what, e, want)
			heard(t, "Sides: "+what, now.heard, said...)
			are(t, "Sides: "+what, kind, []P{one, two}, numbers{}, numbers{})
			if c != (scalar.Scalar{}) {
				t.Errorf("Sides: %s: a weight beside an error", what)
			}
			now = o()
			terms, e := ranges.Terms(g, p, v, proof, now)
			errno(t, "Terms: "+what, e, want)
			heard(t, "Terms: "+what, now.heard, said...)
			if len(terms) != 0 {
				t.Errorf("Terms: %s: %d terms beside an error", what, len(terms))
			}
			now = o()
			yes, cost := ranges.Once(g, p, v, proof, now)
			heard(t, "Once: "+what, now.heard, said...)
			if yes || cost != (msm.Cost{}) {
				t.Errorf("Once: %s: %v, %v", what, yes, cost)
			}
		}
		given := limbs(m, all[:good])
		for _, e := range []api.Errno{api.ErrArg, api.ErrZero, api.ErrShort, api.ErrFold, api.ErrSystem, 77, -1} {
			run("an error", func() *oracle { return &oracle{list: given, e: e} }, e)
		}
		for _, zero := range zeros() {
			list := append(slices.Clip(given), zero, num(5))
			run("0 with OK", func() *oracle { return &oracle{list: list} }, api.ErrZero)
		}
	}
}

func TestP1306P1307P1308ErrorsOfTheOracle(t *testing.T) {
	m := sample.Maker(13061)
	endedOver(t, &m, sample.Lines(), api.Params{Bits: 1, Count: 1})
	endedOver(t, &m, sample.Lines(), api.Params{Bits: 8, Count: 2})
	endedOver(t, &m, sample.Frees(), api.Params{Bits: 2, Count: 2})
	endedOver(t, &m, sample.Boxes(), api.Params{Bits: 4, Count: 1})
	endedOver(t, &m, sample.Points(), api.Params{Bits: 1, Count: 2})
}

// Oracles that hold a nil pointer, and such as nobody made, answer for themselves.
func TestP1306P1307OraclesThatAreNone(t *testing.T) {
	v, x := exampleProof(t)
	g, p := exampleSet(), exampleParams()
	for _, o := range []transcript.Oracle{(*transcript.T)(nil), (*transcript.Script)(nil), new(transcript.T), new(transcript.Script)} {
		list, y, e := ranges.Prove(g, p, exampleOpenings(), exampleTape(), o)
		noProof(t, "Prove", list, y, e, api.ErrArg)
		errno(t, "Rounds", ranges.Rounds(g, p, v, x, o), api.ErrArg)
		if yes, cost := ranges.Once(g, p, v, x, o); yes || cost != (msm.Cost{}) {
			t.Errorf("Once: %v, %v", yes, cost)
		}
	}
	// They are not asked where something else is wrong ahead of that.
	_, _, e := ranges.Prove(g, p, []ranges.Opening{{V: 2}}, exampleTape(), (*transcript.T)(nil))
	errno(t, "Prove", e, api.ErrValue)
}

// The moves and the proof say the same.
func sameOver[P msm.Group[P]](t *testing.T, m *sample.Maker, kind sample.Kind[P], list []api.Params) {
	t.Helper()
	for _, p := range list {
		k, a := anySecret(m, p), anyAsked(m, p)
		g := setOf(m, kind, anyWorld(m, kind, p))
		v, x, e := ranges.Prove(g, p, openingsOf(m, k), tapeOf(m, k), answering(m, a))
		errno(t, "Prove", e, api.OK)

		r, list, _, e := ranges.Begin(g, p, openingsOf(m, k), tapeOf(m, k))
		errno(t, "Begin", e, api.OK)
		_, e = r.Middle(m.Limbs(a.y), m.Limbs(a.z))
		errno(t, "Middle", e, api.OK)
		w, e := r.Finish(m.Limbs(a.x))
		errno(t, "Finish", e, api.OK)
		q, s, h, e := ranges.Statement(g, p, w, m.Limbs(a.w))
		errno(t, "Statement", e, api.OK)
		argument, e := ipa.Prove(q, g.G[:p.Size()], h, w.L, w.R, &oracle{list: limbs(m, a.us), e: api.ErrTx})
		errno(t, "ipa.Prove", e, api.OK)

		if !slices.EqualFunc(v, list, P.Same) || !x.A.Same(w.A) || !x.S.Same(w.S) || !x.T1.Same(w.T1) || !x.T2.Same(w.T2) || x.TauX != w.TauX || x.Mu != w.Mu || x.That != w.That {
			t.Errorf("over %s: the proof says other than the view", kind.Name)
		}
		if !slices.EqualFunc(x.L, argument.L, P.Same) || !slices.EqualFunc(x.R, argument.R, P.Same) || x.Ea != argument.A || x.Eb != argument.B {
			t.Errorf("over %s: the proof says other than the argument", kind.Name)
		}
		about := ipa.Statement[P]{P: s, Q: q, G: g.G[:p.Size()], H: h}
		errno(t, "ipa.Verify", ipa.Verify(about, argument, limbs(m, a.us)), api.OK)
	}
}

func TestP1312TheMovesAndTheProof(t *testing.T) {
	m := sample.Maker(1312)
	sameOver(t, &m, sample.Lines(), allParams(64))
	sameOver(t, &m, sample.Frees(), allParams(16))
	sameOver(t, &m, sample.Boxes(), allParams(16))
	sameOver(t, &m, sample.Points(), allParams(4))
}
