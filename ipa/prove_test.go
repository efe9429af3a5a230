package ipa_test

import (
	"testing"

	"veil/api"
	"veil/ipa"
	"veil/msm"
	"veil/sample"
	"veil/scalar"
	"veil/transcript"
)

func imagesOver[P msm.Group[P]](t *testing.T, m *sample.Maker, kind sample.Kind[P], lengths ...int) {
	t.Helper()
	for _, length := range lengths {
		s, a, b := anyStated(m, kind, length), someNumbers(m, length), someNumbers(m, length)
		p, e := ipa.Image(kind.Of(m, s.q), elements(m, kind, s.g), elements(m, kind, s.h), limbs(m, a), limbs(m, b))
		errno(t, "Image over "+kind.Name, e, api.OK)
		are(t, "Image", kind, []P{p}, image(s.q, s.g, s.h, a, b))
	}
}

func TestP1201Image(t *testing.T) {
	m := sample.Maker(1201)
	lengths := []int{0, 0, 1, 1, 1, 2, 2, 2, 3, 4, 5, 7, 8, 9, 10, 11, 12, 16, 31, 100}
	imagesOver(t, &m, sample.Lines(), append(lengths, 1024, 1025, 3000)...)
	imagesOver(t, &m, sample.Frees(), lengths...)
	imagesOver(t, &m, sample.Boxes(), lengths...)
	imagesOver(t, &m, sample.Points(), 0, 1, 3, 9, 10, 40)
}

func TestP1201ImageOfUnlikeLengths(t *testing.T) {
	for code := range 81 {
		g, h, a, b := code%3, code/3%3, code/9%3, code/27
		p, e := ipa.Image(line(5), make([]msm.Line, g), make([]msm.Line, h), ints(7, 7, 7)[:a], ints(7, 7, 7)[:b])
		if g == h && g == a && g == b {
			errno(t, "Image of one length", e, api.OK)
			continue
		}
		errno(t, "Image of unlike lengths", e, api.ErrLength)
		if p != line(0) {
			t.Errorf("Image: %v beside an error", p)
		}
	}
}

func proveOver[P msm.Group[P]](t *testing.T, m *sample.Maker, kind sample.Kind[P], sizes []int) {
	t.Helper()
	for _, size := range sizes {
		count := roundsOf(size)
		s, a, b, us := anyStated(m, kind, size), someNumbers(m, size), someNumbers(m, size), chances(m, count)
		want := s.proved(a, b, us)
		q, g, h := kind.Of(m, s.q), elements(m, kind, s.g), elements(m, kind, s.h)
		o := &oracle{list: limbs(m, us), e: api.ErrTx}
		x, e := ipa.Prove(q, g, h, limbs(m, a), limbs(m, b), o)
		errno(t, "Prove over "+kind.Name, e, api.OK)
		isArgued(t, "Prove", kind, x, want)
		heard(t, "Prove over "+kind.Name, o.heard, saidOf(kind, size, want, count)...)

		o = &oracle{list: limbs(m, us), e: api.ErrTx}
		got, e := ipa.Challenges(size, argument(m, kind, want), o)
		errno(t, "Challenges over "+kind.Name, e, api.OK)
		told(t, "Challenges", got, us)
		heard(t, "Challenges over "+kind.Name, o.heard, saidOf(kind, size, want, count)...)
	}
}

func TestP1202P1203ProveAndChallenges(t *testing.T) {
	m := sample.Maker(1202)
	for range 4 {
		proveOver(t, &m, sample.Lines(), sizes(32))
		proveOver(t, &m, sample.Frees(), sizes(32))
		proveOver(t, &m, sample.Boxes(), sizes(32))
	}
	proveOver(t, &m, sample.Lines(), []int{64, 128, 256, 512, 1024})
	proveOver(t, &m, sample.Points(), sizes(16))
}

// What is said for an argument is the argument's alone: any elements, not those of a prover.
func challengesOver[P msm.Group[P]](t *testing.T, m *sample.Maker, kind sample.Kind[P], sizes []int) {
	t.Helper()
	for _, size := range sizes {
		count := roundsOf(size)
		x, us := anyArgued(m, kind, count), chances(m, count)
		o := &oracle{list: limbs(m, us), e: api.ErrTx}
		got, e := ipa.Challenges(size, argument(m, kind, x), o)
		errno(t, "Challenges over "+kind.Name, e, api.OK)
		told(t, "Challenges", got, us)
		heard(t, "Challenges over "+kind.Name, o.heard, saidOf(kind, size, x, count)...)
	}
}

func TestP1203ChallengesOfAnyArgument(t *testing.T) {
	m := sample.Maker(1203)
	challengesOver(t, &m, sample.Lines(), sizes(1024))
	challengesOver(t, &m, sample.Frees(), sizes(1024))
	challengesOver(t, &m, sample.Boxes(), sizes(1024))
	challengesOver(t, &m, sample.Points(), sizes(8))
}

// The Oracle ends it in some round, by an error or by a 0 with OK: what was said up to there was said.
func endedOver[P msm.Group[P]](t *testing.T, m *sample.Maker, kind sample.Kind[P], size int) {
	t.Helper()
	count := roundsOf(size)
	s, a, b, us := anyStated(m, kind, size), someNumbers(m, size), someNumbers(m, size), chances(m, count)
	x := s.proved(a, b, us)
	for good := range count {
		given := limbs(m, us[:good])
		said := saidOf(kind, size, x, good+1)
		run := func(what string, o *oracle, want api.Errno) {
			t.Helper()
			p, e := ipa.Prove(kind.Of(m, s.q), elements(m, kind, s.g), elements(m, kind, s.h), limbs(m, a), limbs(m, b), o)
			noArgument(t, "Prove over "+what, p, e, want)
			heard(t, "Prove over "+what, o.heard, said...)
		}
		ask := func(what string, o *oracle, want api.Errno) {
			t.Helper()
			list, e := ipa.Challenges(size, argument(m, kind, x), o)
			noList(t, "Challenges over "+what, list, e, want)
			heard(t, "Challenges over "+what, o.heard, said...)
		}
		for _, e := range []api.Errno{api.ErrShort, api.ErrZero, api.ErrArg, api.ErrTx, -1, 12345} {
			run("an error", &oracle{list: given, e: e}, e)
			ask("an error", &oracle{list: given, e: e}, e)
		}
		for _, zero := range zeros() {
			list := append(given[:good:good], zero, scalar.Int(5))
			run("0 with OK", &oracle{list: list}, api.ErrZero)
			ask("0 with OK", &oracle{list: list}, api.ErrZero)
		}
	}
}

func TestP1202P1203ErrorsOfTheOracle(t *testing.T) {
	m := sample.Maker(12020)
	endedOver(t, &m, sample.Lines(), 2)
	endedOver(t, &m, sample.Lines(), 32)
	endedOver(t, &m, sample.Frees(), 8)
	endedOver(t, &m, sample.Boxes(), 8)
	endedOver(t, &m, sample.Points(), 2)
}

func TestP1202P1203ScriptsAndTranscripts(t *testing.T) {
	g, h, a, b := lines(1, 2, 3, 4), lines(5, 6, 7, 8), ints(1, 2, 3, 4), ints(4, 3, 2, 1)
	for _, c := range []struct {
		what string
		make func() transcript.Oracle
		want api.Errno
	}{
		{"Given()", func() transcript.Oracle { return transcript.Given() }, api.ErrShort},
		{"Given(1)", func() transcript.Oracle { return transcript.Given(scalar.Int(1)) }, api.ErrShort},
		{"Given(1, 0)", func() transcript.Oracle { return transcript.Given(ints(1, 0)...) }, api.ErrZero},
		{"Given(1, 2)", func() transcript.Oracle { return transcript.Given(ints(1, 2)...) }, api.OK},
		{"a nil *T", func() transcript.Oracle { return (*transcript.T)(nil) }, api.ErrArg},
		{"a nil *Script", func() transcript.Oracle { return (*transcript.Script)(nil) }, api.ErrArg},
		{"a zero T", func() transcript.Oracle { return new(transcript.T) }, api.ErrArg},
		{"a transcript", func() transcript.Oracle { return transcript.New("x") }, api.OK},
	} {
		_, e := ipa.Prove(line(9), g, h, a, b, c.make())
		errno(t, "Prove over "+c.what, e, c.want)
		_, e = ipa.Challenges(4, ipa.Argument[msm.Line]{L: lines(1, 2), R: lines(3, 4)}, c.make())
		errno(t, "Challenges over "+c.what, e, c.want)
	}
	// Without rounds there is no Draw, and nothing that an Oracle might answer.
	_, e := ipa.Prove(line(9), g[:1], h[:1], a[:1], b[:1], (*transcript.T)(nil))
	errno(t, "Prove of size 1 over a nil *T", e, api.OK)
	us, e := ipa.Challenges(1, ipa.Argument[msm.Line]{}, (*transcript.T)(nil))
	errno(t, "Challenges of size 1 over a nil *T", e, api.OK)
	if len(us) != 0 {
		t.Errorf("Challenges of size 1: %v", us)
	}
}

// Size 1: the scalars themselves, by their least limbs.
func TestP1202SizeOneByAnyLimbs(t *testing.T) {
	m := sample.Maker(12021)
	for range 100 {
		a, b := m.Number(), m.Number()
		x, e := ipa.Prove(line(5), lines(1), lines(3), limbs(&m, numbers{a}), limbs(&m, numbers{b}), &oracle{})
		errno(t, "Prove", e, api.OK)
		isArgued(t, "Prove", sample.Lines(), x, argued{a: a, b: b})
	}
}
