package sigma_test

import (
	"math"
	"math/big"
	"testing"

	"veil/api"
	"veil/msm"
	"veil/sample"
	"veil/scalar"
	"veil/sigma"
	"veil/transcript"
)

// oneOfChance: any challenge that is not 0.
func oneOfChance(m *sample.Maker) *big.Int {
	return new(big.Int).Add(big.NewInt(1), sample.Mod(sample.Number(m.Bytes(31))))
}

func proveOver[P msm.Group[P]](t *testing.T, m *sample.Maker, kind sample.Kind[P], shapes [][2]int) {
	t.Helper()
	for _, shape := range shapes {
		c, xs := trueClaim(m, kind, shape[0], shape[1])
		nonces, ch := someNumbers(m, shape[1]), oneOfChance(m)
		o := &fixed{ch: m.Limbs(ch)}
		p, e := sigma.Prove(c.claim, limbs(m, xs), limbs(m, nonces), o)
		errno(t, "Prove over "+kind.Name, e, api.OK)
		told(t, "C", []scalar.Scalar{p.C}, numbers{ch})
		told(t, "Answers", p.Answers, answer(nonces, xs, ch))
		said := []transcript.Said{c.saidClaim(), c.saidFirst(func(i int) numbers { return c.image(i, nonces) }), drawn()}
		heard(t, "Prove over "+kind.Name, o.heard, said...)

		o = &fixed{ch: m.Limbs(ch)}
		errno(t, "Verify over "+kind.Name, sigma.Verify(c.claim, p, o), api.OK)
		heard(t, "Verify over "+kind.Name, o.heard, said...)

		for j := range xs {
			o = &fixed{ch: m.Limbs(ch)}
			wrong := other(xs, j)
			if c.holds(wrong) {
				continue
			}
			p, e = sigma.Prove(c.claim, limbs(m, wrong), limbs(m, nonces), o)
			noProof(t, "Prove of what does not hold", p, e, api.ErrWitness)
			heard(t, "Prove of what does not hold", o.heard)
		}
	}
}

func TestP1105Prove(t *testing.T) {
	m := sample.Maker(1105)
	for range 3 {
		proveOver(t, &m, sample.Lines(), shapes())
		proveOver(t, &m, sample.Frees(), shapes())
		proveOver(t, &m, sample.Boxes(), shapes())
	}
	proveOver(t, &m, sample.Points(), fewShapes())
}

// Any proof, of any claim: it is right just if its challenge is the one that is drawn.
func verifyOver[P msm.Group[P]](t *testing.T, m *sample.Maker, kind sample.Kind[P], shapes [][2]int) {
	t.Helper()
	for _, shape := range shapes {
		c := anyClaim(m, kind, shape[0], shape[1])
		ch, answers := oneOfChance(m), someNumbers(m, shape[1])
		p := sigma.Proof{C: m.Limbs(ch), Answers: limbs(m, answers)}
		said := []transcript.Said{c.saidClaim(), c.saidFirst(func(i int) numbers { return c.made(i, ch, answers) }), drawn()}
		for _, draw := range append(numbers{ch, m.Number()}, other(numbers{ch}, 0)...) {
			o := &fixed{ch: m.Limbs(draw)}
			want := right(draw.Cmp(ch) == 0, api.ErrRejects)
			if draw.Sign() == 0 {
				want = api.ErrZero
			}
			errno(t, "Verify over "+kind.Name, sigma.Verify(c.claim, p, o), want)
			heard(t, "Verify over "+kind.Name, o.heard, said...)
		}
	}
}

func TestP1105Verify(t *testing.T) {
	m := sample.Maker(11050)
	for range 3 {
		verifyOver(t, &m, sample.Lines(), shapes())
		verifyOver(t, &m, sample.Frees(), shapes())
		verifyOver(t, &m, sample.Boxes(), shapes())
	}
	verifyOver(t, &m, sample.Points(), fewShapes())
}

// badOracle: an Oracle, and the error that it comes to.
type badOracle struct {
	what string
	make func() transcript.Oracle
	want api.Errno
}

// badOracles: those that answer an error, or 0 with OK by any of its limbs; and such as hold nothing.
func badOracles() []badOracle {
	list := []badOracle{
		{"Given()", func() transcript.Oracle { return transcript.Given() }, api.ErrShort},
		{"Given(0)", func() transcript.Oracle { return transcript.Given(scalar.Scalar{}) }, api.ErrZero},
		{"a nil *T", func() transcript.Oracle { return (*transcript.T)(nil) }, api.ErrArg},
		{"a nil *Script", func() transcript.Oracle { return (*transcript.Script)(nil) }, api.ErrArg},
		{"a zero T", func() transcript.Oracle { return new(transcript.T) }, api.ErrArg},
	}
	for _, zero := range sample.Scalars(new(big.Int)) {
		list = append(list, badOracle{"0 with OK", func() transcript.Oracle { return &fixed{ch: zero} }, api.ErrZero})
	}
	for _, e := range []api.Errno{api.ErrZero, api.ErrShort, api.ErrTx, -1, 12345} {
		list = append(list,
			badOracle{"an error", func() transcript.Oracle { return &fixed{ch: scalar.Int(7), e: e} }, e},
			badOracle{"0 and an error", func() transcript.Oracle { return &fixed{e: e} }, e})
	}
	return list
}

func TestP1105P1106ErrorsOfTheOracle(t *testing.T) {
	a, b := sigma.Key(line(1), line(5)), sigma.Key(line(1), line(9))
	for _, c := range badOracles() {
		p, e := sigma.Prove(a, ints(5), ints(3), c.make())
		noProof(t, "Prove over "+c.what, p, e, c.want)
		either, e := sigma.ProveEither(a, b, 1, ints(5), ints(3), scalar.Int(2), ints(20), c.make())
		noEither(t, "ProveEither over "+c.what, either, e, c.want)
		for _, ch := range []scalar.Scalar{{}, scalar.Int(7)} {
			errno(t, "Verify over "+c.what, sigma.Verify(a, sigma.Proof{C: ch, Answers: ints(38)}, c.make()), c.want)
			errno(t, "VerifyEither over "+c.what, sigma.VerifyEither(a, b, sigma.Either{C1: ch, A1: ints(1), A2: ints(1)}, c.make()), c.want)
		}
	}
}

// All is said ahead of an error that the Oracle answers.
func TestP1105P1106WhatAnOracleHeardAheadOfItsError(t *testing.T) {
	a, b := sigma.Key(line(1), line(5)), sigma.Key(line(1), line(9))
	for _, o := range []*fixed{{e: api.ErrShort}, {}} {
		sigma.Prove(a, ints(5), ints(3), o)
		sigma.Verify(a, sigma.Proof{Answers: ints(3)}, o)
		sigma.ProveEither(a, b, 2, ints(9), ints(3), scalar.Int(2), ints(20), o)
		sigma.VerifyEither(a, b, sigma.Either{A1: ints(3), A2: ints(4)}, o)
		labels := ""
		for _, said := range o.heard {
			labels += said.Label + " "
		}
		if labels != "claim first c claim first c claim claim first first c claim claim first first c " {
			t.Errorf("was said: %s", labels)
		}
	}
}

// two: what a proof of one of two claims is made of.
type two[P msm.Group[P]] struct {
	known        int
	mine, other  known[P]
	xs, nonces   numbers
	ch, t        *big.Int
	made         numbers
	first, later known[P]
}

func anyTwo[P msm.Group[P]](m *sample.Maker, kind sample.Kind[P], which int, mine, other [2]int) two[P] {
	c := two[P]{known: which, ch: m.Number(), t: oneOfChance(m), nonces: someNumbers(m, mine[1]), made: someNumbers(m, other[1])}
	c.mine, c.xs = trueClaim(m, kind, mine[0], mine[1])
	c.other = anyClaim(m, kind, other[0], other[1])
	c.first, c.later = c.mine, c.other
	if which == 2 {
		c.first, c.later = c.other, c.mine
	}
	return c
}

func (c two[P]) prove(m *sample.Maker, xs numbers, o transcript.Oracle) (sigma.Either, api.Errno) {
	return sigma.ProveEither(c.first.claim, c.later.claim, c.known, limbs(m, xs), limbs(m, c.nonces), m.Limbs(c.ch), limbs(m, c.made), o)
}

// said: all that an Oracle hears.
func (c two[P]) said() []transcript.Said {
	mine := c.mine.saidFirst(func(i int) numbers { return c.mine.image(i, c.nonces) })
	other := c.other.saidFirst(func(i int) numbers { return c.other.made(i, c.ch, c.made) })
	if c.known == 2 {
		mine, other = other, mine
	}
	return []transcript.Said{c.first.saidClaim(), c.later.saidClaim(), mine, other, drawn()}
}

// isRight: a proof must be the one that the words say.
func (c two[P]) isRight(t *testing.T, p sigma.Either) {
	t.Helper()
	rest := sample.Mod(new(big.Int).Sub(c.t, c.ch))
	answers := answer(c.nonces, c.xs, rest)
	if c.known == 1 {
		told(t, "C1, C2", []scalar.Scalar{p.C1, p.C2}, numbers{rest, c.ch})
		told(t, "A1", p.A1, answers)
		told(t, "A2", p.A2, c.made)
		return
	}
	told(t, "C1, C2", []scalar.Scalar{p.C1, p.C2}, numbers{c.ch, rest})
	told(t, "A1", p.A1, c.made)
	told(t, "A2", p.A2, answers)
}

func eitherOver[P msm.Group[P]](t *testing.T, m *sample.Maker, kind sample.Kind[P], shapes [][2]int) {
	t.Helper()
	for _, mine := range shapes {
		for _, other := range shapes {
			for which := 1; which <= 2; which++ {
				c := anyTwo(m, kind, which, mine, other)
				o := &fixed{ch: m.Limbs(c.t)}
				p, e := c.prove(m, c.xs, o)
				errno(t, "ProveEither over "+kind.Name, e, api.OK)
				c.isRight(t, p)
				heard(t, "ProveEither over "+kind.Name, o.heard, c.said()...)

				o = &fixed{ch: m.Limbs(c.t)}
				errno(t, "VerifyEither over "+kind.Name, sigma.VerifyEither(c.first.claim, c.later.claim, p, o), api.OK)
				heard(t, "VerifyEither over "+kind.Name, o.heard, c.said()...)
				c.wrongOnes(t, m)
			}
		}
	}
}

// wrongOnes: scalars that do not hold in the known claim, whatever the other one says.
func (c two[P]) wrongOnes(t *testing.T, m *sample.Maker) {
	t.Helper()
	for j := range c.xs {
		wrong := other(c.xs, j)
		if c.mine.holds(wrong) {
			continue
		}
		o := &fixed{ch: m.Limbs(c.t)}
		p, e := c.prove(m, wrong, o)
		noEither(t, "ProveEither of what does not hold", p, e, api.ErrWitness)
		heard(t, "ProveEither of what does not hold", o.heard)
	}
}

func TestP1106ProveEither(t *testing.T) {
	m := sample.Maker(1106)
	eitherOver(t, &m, sample.Lines(), shapes())
	eitherOver(t, &m, sample.Boxes(), shapes())
	eitherOver(t, &m, sample.Frees(), shapes()[:6])
	eitherOver(t, &m, sample.Points(), fewShapes())
}

func verifyEitherOver[P msm.Group[P]](t *testing.T, m *sample.Maker, kind sample.Kind[P], shapes [][2]int) {
	t.Helper()
	for i, one := range shapes {
		two := shapes[len(shapes)-1-i]
		a, b := anyClaim(m, kind, one[0], one[1]), anyClaim(m, kind, two[0], two[1])
		c1, c2, a1, a2 := m.Number(), oneOfChance(m), someNumbers(m, one[1]), someNumbers(m, two[1])
		p := sigma.Either{C1: m.Limbs(c1), C2: m.Limbs(c2), A1: limbs(m, a1), A2: limbs(m, a2)}
		sum := sample.Mod(new(big.Int).Add(c1, c2))
		for _, draw := range (numbers{sum, c1, c2, other(numbers{sum}, 0)[0], m.Number()}) {
			want := right(draw.Cmp(sum) == 0, api.ErrRejects)
			if draw.Sign() == 0 {
				want = api.ErrZero
			}
			o := &fixed{ch: m.Limbs(draw)}
			errno(t, "VerifyEither over "+kind.Name, sigma.VerifyEither(a.claim, b.claim, p, o), want)
			heard(t, "VerifyEither over "+kind.Name, o.heard, a.saidClaim(), b.saidClaim(),
				a.saidFirst(func(i int) numbers { return a.made(i, c1, a1) }),
				b.saidFirst(func(i int) numbers { return b.made(i, c2, a2) }), drawn())
		}
	}
}

func TestP1106VerifyEither(t *testing.T) {
	m := sample.Maker(11060)
	for range 3 {
		verifyEitherOver(t, &m, sample.Lines(), shapes())
		verifyEitherOver(t, &m, sample.Frees(), shapes())
		verifyEitherOver(t, &m, sample.Boxes(), shapes())
	}
	verifyEitherOver(t, &m, sample.Points(), fewShapes())
}

func TestP1106Known(t *testing.T) {
	a, b, none := sigma.Key(line(1), line(5)), sigma.Key(line(1), line(9)), sigma.Claim[msm.Line]{}
	for _, which := range []int{0, -1, 3, 4, -2, 1 << 32, 1<<32 + 1, math.MinInt, math.MinInt + 1, math.MaxInt} {
		o := transcript.Given(scalar.Int(10))
		p, e := sigma.ProveEither(a, b, which, ints(5), ints(4), scalar.Int(3), ints(20), o)
		noEither(t, "ProveEither of a claim that there is not", p, e, api.ErrArg)
		p, e = sigma.ProveEither(none, none, which, nil, nil, scalar.Int(3), nil, o)
		noEither(t, "ProveEither of a claim that there is not, among none", p, e, api.ErrArg)
		p, e = sigma.ProveEither(a, b, which, ints(5), ints(4), scalar.Int(3), ints(20), nil)
		noEither(t, "ProveEither without an Oracle", p, e, api.ErrArg)
		heard(t, "ProveEither of a claim that there is not", o.Heard())
	}
}

// The challenge that is left for the known claim may be 0; the one that is made up, too.
func TestP1106ChallengesOf0(t *testing.T) {
	a, b := sigma.Key(line(1), line(5)), sigma.Key(line(1), line(9))
	for _, ch := range []uint64{0, 10} {
		p, e := sigma.ProveEither(a, b, 1, ints(5), ints(4), scalar.Int(ch), ints(20), transcript.Given(scalar.Int(10)))
		errno(t, "ProveEither", e, api.OK)
		told(t, "C1, C2", []scalar.Scalar{p.C1, p.C2}, sample.Small(10-int64(ch), int64(ch)))
		errno(t, "VerifyEither", sigma.VerifyEither(a, b, p, transcript.Given(scalar.Int(10))), api.OK)
	}
}
