package ipa_test

// P1207: what is proved can be shown, over any Oracle.

import (
	"testing"

	"veil/api"
	"veil/gens"
	"veil/group"
	"veil/ipa"
	"veil/msm"
	"veil/sample"
	"veil/scalar"
	"veil/transcript"
)

// shown: the argument of a and b must be right for their image, by the challenges that the Oracles answer.
func shown[P msm.Group[P]](t *testing.T, what string, s ipa.Statement[P], a, b []scalar.Scalar, make func() transcript.Oracle) {
	t.Helper()
	p, e := ipa.Image(s.Q, s.G, s.H, a, b)
	errno(t, what+": Image", e, api.OK)
	s.P = p
	x, e := ipa.Prove(s.Q, s.G, s.H, a, b, make())
	errno(t, what+": Prove", e, api.OK)
	us, e := ipa.Challenges(len(a), x, make())
	errno(t, what+": Challenges", e, api.OK)
	errno(t, what+": Verify", ipa.Verify(s, x, us), api.OK)
	terms, e := ipa.Terms(s, x, us)
	errno(t, what+": Terms", e, api.OK)
	var neutral P
	if sum, _ := msm.Sum(terms...); !sum.Same(neutral) {
		t.Errorf("%s: the terms' sum is not neutral", what)
	}
	s.P = s.P.Add(s.Q)
	errno(t, what+": Verify of another P", ipa.Verify(s, x, us), right(s.Q.Same(neutral), api.ErrFold))
}

func shownOver[P msm.Group[P]](t *testing.T, m *sample.Maker, kind sample.Kind[P], sizes []int) {
	t.Helper()
	for _, size := range sizes {
		s := statement(m, kind, anyStated(m, kind, size))
		a, b := limbs(m, someNumbers(m, size)), limbs(m, someNumbers(m, size))
		us := limbs(m, chances(m, roundsOf(size)))
		shown(t, "a transcript over "+kind.Name, s, a, b, func() transcript.Oracle { return transcript.New("shown") })
		shown(t, "a script over "+kind.Name, s, a, b, func() transcript.Oracle { return transcript.Given(us...) })
		shown(t, "an Oracle of the test's own over "+kind.Name, s, a, b, func() transcript.Oracle { return &oracle{list: us, e: api.ErrTx} })
	}
}

func TestP1207WhatIsProvedCanBeShown(t *testing.T) {
	m := sample.Maker(1207)
	for range 3 {
		shownOver(t, &m, sample.Lines(), sizes(64))
		shownOver(t, &m, sample.Frees(), sizes(64))
		shownOver(t, &m, sample.Boxes(), sizes(64))
	}
	shownOver(t, &m, sample.Lines(), []int{1024})
	shownOver(t, &m, sample.Points(), sizes(4))
}

func TestP1207StandardGenerators(t *testing.T) {
	m := sample.Maker(12070)
	for _, size := range []int{32, 1024} {
		g, e := gens.Standard(size)
		errno(t, "Standard", e, api.OK)
		s := ipa.Statement[group.Point]{Q: g.Q, G: g.G, H: g.H}
		a, b := limbs(&m, someNumbers(&m, size)), limbs(&m, someNumbers(&m, size))
		shown(t, "standard generators", s, a, b, func() transcript.Oracle { return transcript.New("standard") })
	}
}

// Over a transcript nothing of an argument can be changed.
func TestP1204ChangedArguments(t *testing.T) {
	m := sample.Maker(12071)
	g, _ := gens.Standard(8)
	a, b := limbs(&m, someNumbers(&m, 8)), limbs(&m, someNumbers(&m, 8))
	p, _ := ipa.Image(g.Q, g.G, g.H, a, b)
	s := ipa.Statement[group.Point]{P: p, Q: g.Q, G: g.G, H: g.H}
	x, _ := ipa.Prove(g.Q, g.G, g.H, a, b, transcript.New("label"))
	judge := func(x ipa.Argument[group.Point], label string) api.Errno {
		us, e := ipa.Challenges(8, x, transcript.New(label))
		errno(t, "Challenges", e, api.OK)
		return ipa.Verify(s, x, us)
	}
	errno(t, "the argument", judge(x, "label"), api.OK)
	errno(t, "under another label", judge(x, "other"), api.ErrFold)
	for round := range 3 {
		y := ipa.Argument[group.Point]{L: append([]group.Point{}, x.L...), R: append([]group.Point{}, x.R...), A: x.A, B: x.B}
		y.L[round] = y.L[round].Add(g.B)
		errno(t, "another L", judge(y, "label"), api.ErrFold)
		y.L[round], y.R[round] = x.L[round], y.R[round].Neg()
		errno(t, "another R", judge(y, "label"), api.ErrFold)
	}
	errno(t, "L and R the other way round", judge(ipa.Argument[group.Point]{L: x.R, R: x.L, A: x.A, B: x.B}, "label"), api.ErrFold)
	errno(t, "A and B the other way round", judge(ipa.Argument[group.Point]{L: x.L, R: x.R, A: x.B, B: x.A}, "label"), api.ErrFold)
}
