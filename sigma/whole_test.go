package sigma_test

// P1109 to P1112: what the calls promise together.

import (
	"math/big"
	"slices"
	"testing"

	"veil/api"
	"veil/gens"
	"veil/msm"
	"veil/sample"
	"veil/scalar"
	"veil/sigma"
	"veil/transcript"
)

// oracles: pairs of Oracles that answer alike.
func oracles(m *sample.Maker) [][2]transcript.Oracle {
	pair := func(make func() transcript.Oracle) [2]transcript.Oracle {
		return [2]transcript.Oracle{make(), make()}
	}
	ch := m.Limbs(oneOfChance(m))
	return [][2]transcript.Oracle{
		pair(func() transcript.Oracle { return transcript.New("shown") }),
		pair(func() transcript.Oracle { return transcript.New("shown").Fork("aside") }),
		pair(func() transcript.Oracle { return transcript.Given(ch, ch) }),
		pair(func() transcript.Oracle { return &fixed{ch: ch} }),
	}
}

func shownOver[P msm.Group[P]](t *testing.T, m *sample.Maker, kind sample.Kind[P], shapes [][2]int) {
	t.Helper()
	for _, shape := range shapes {
		c, xs := trueClaim(m, kind, shape[0], shape[1])
		nonces := limbs(m, someNumbers(m, shape[1]))
		for _, o := range oracles(m) {
			p, e := sigma.Prove(c.claim, limbs(m, xs), nonces, o[0])
			errno(t, "Prove over "+kind.Name, e, api.OK)
			errno(t, "Verify over "+kind.Name, sigma.Verify(c.claim, p, o[1]), api.OK)
		}
		for known := 1; known <= 2; known++ {
			for _, o := range oracles(m) {
				d := anyTwo(m, kind, known, shape, [2]int{1, 2})
				p, e := d.prove(m, d.xs, o[0])
				errno(t, "ProveEither over "+kind.Name, e, api.OK)
				errno(t, "VerifyEither over "+kind.Name, sigma.VerifyEither(d.first.claim, d.later.claim, p, o[1]), api.OK)
			}
		}
		first, _ := sigma.First(c.claim, nonces)
		for _, ch := range append(sample.Small(0, 1, -1), m.Number(), m.Number()) {
			answers, _ := sigma.Answer(nonces, limbs(m, xs), m.Limbs(ch))
			errno(t, "Accepts over "+kind.Name, sigma.Accepts(c.claim, first, m.Limbs(ch), answers), api.OK)
		}
	}
}

func TestP1109WhatIsProvedCanBeShown(t *testing.T) {
	m := sample.Maker(1109)
	for range 2 {
		shownOver(t, &m, sample.Lines(), shapes())
		shownOver(t, &m, sample.Frees(), shapes())
		shownOver(t, &m, sample.Boxes(), shapes())
	}
	shownOver(t, &m, sample.Points(), fewShapes())
}

// Two proofs over one Oracle, one behind the other: each hangs on what was said ahead of it.
func TestP1109ProofsInARow(t *testing.T) {
	c, o := sigma.Key(line(1), line(5)), transcript.New("row")
	one, _ := sigma.Prove(c, ints(5), ints(3), o)
	two, _ := sigma.Prove(c, ints(5), ints(3), o)
	if one.C == two.C {
		t.Error("the second challenge is the first one")
	}
	o = transcript.New("row")
	errno(t, "the first", sigma.Verify(c, one, o), api.OK)
	errno(t, "the second", sigma.Verify(c, two, o), api.OK)
	o = transcript.New("row")
	errno(t, "the second in the first one's place", sigma.Verify(c, two, o), api.ErrRejects)
	errno(t, "under another label", sigma.Verify(c, one, transcript.New("other")), api.ErrRejects)
}

// Over a transcript nothing of a proof, nor of its claim, can be changed.
func TestP1105ChangedProofs(t *testing.T) {
	m := sample.Maker(11090)
	s, _ := gens.Standard(0)
	one, v, f, g := scalar.Int(1), scalar.Int(12), m.Limbs(m.Number()), m.Limbs(m.Number())
	a, b := gens.Commit(s, v, f), gens.Commit(s, v, g)
	c := sigma.Equal(s, a, b)
	p, e := sigma.Prove(c, []scalar.Scalar{v, f, g}, limbs(&m, someNumbers(&m, 3)), transcript.New("equal"))
	errno(t, "Prove", e, api.OK)
	errno(t, "Verify", sigma.Verify(c, p, transcript.New("equal")), api.OK)
	errno(t, "Verify of another claim", sigma.Verify(sigma.Equal(s, b, a), p, transcript.New("equal")), api.ErrRejects)
	errno(t, "Verify of another image", sigma.Verify(sigma.Equal(s, a, b.Add(s.B)), p, transcript.New("equal")), api.ErrRejects)
	for j := range p.Answers {
		wrong := slices.Clone(p.Answers)
		wrong[j] = wrong[j].Add(one)
		errno(t, "Verify of another answer", sigma.Verify(c, sigma.Proof{C: p.C, Answers: wrong}, transcript.New("equal")), api.ErrRejects)
	}
	errno(t, "Verify of another challenge", sigma.Verify(c, sigma.Proof{C: p.C.Add(one), Answers: p.Answers}, transcript.New("equal")), api.ErrRejects)
}

// The same scalars by other limbs are the same proof.
func TestP1105P1106AnyLimbs(t *testing.T) {
	m := sample.Maker(11091)
	a, b := sigma.Key(line(1), line(5)), sigma.Key(line(1), line(9))
	p, _ := sigma.Prove(a, ints(5), ints(3), transcript.New("limbs"))
	either, _ := sigma.ProveEither(a, b, 2, ints(9), ints(4), scalar.Int(3), ints(20), transcript.New("limbs"))
	far := func(k scalar.Scalar) scalar.Scalar { return m.Limbs(sample.NumberOf(k)) }
	for range 10 {
		q := sigma.Proof{C: far(p.C), Answers: []scalar.Scalar{far(p.Answers[0])}}
		errno(t, "Verify", sigma.Verify(a, q, transcript.New("limbs")), api.OK)
		r := sigma.Either{C1: far(either.C1), C2: far(either.C2), A1: []scalar.Scalar{far(either.A1[0])}, A2: []scalar.Scalar{far(either.A2[0])}}
		errno(t, "VerifyEither", sigma.VerifyEither(a, b, r, transcript.New("limbs")), api.OK)
	}
}

// Whoever answers two challenges knows the scalars, in whatever way the answers were made: here they are solved for, in a row of known logarithms.
func TestP1110WhatIsShownIsKnown(t *testing.T) {
	m := sample.Maker(1110)
	for range 200 {
		width := 2 + int(m.Next()%3)
		c := anyClaim(&m, sample.Lines(), 1, width)
		if c.rows[0][width-1].At(0).Sign() == 0 {
			continue
		}
		first := m.Number()
		ch1, ch2 := m.Number(), m.Number()
		if ch1.Cmp(ch2) == 0 {
			continue
		}
		a1, a2 := solved(&m, c, first, ch1), solved(&m, c, first, ch2)
		message := []msm.Line{{K: m.Limbs(first)}}
		errno(t, "Accepts", sigma.Accepts(c.claim, message, m.Limbs(ch1), limbs(&m, a1)), api.OK)
		errno(t, "Accepts", sigma.Accepts(c.claim, message, m.Limbs(ch2), limbs(&m, a2)), api.OK)
		xs, e := sigma.Extract(c.claim, message, m.Limbs(ch1), limbs(&m, a1), m.Limbs(ch2), limbs(&m, a2))
		errno(t, "Extract", e, api.OK)
		errno(t, "Holds", sigma.Holds(c.claim, xs), api.OK)
	}
}

// solved: any answers but for the last one, which makes them right.
func solved(m *sample.Maker, c known[msm.Line], first, ch *big.Int) numbers {
	last := len(c.rows[0]) - 1
	answers := someNumbers(m, last+1)
	answers[last] = new(big.Int)
	want := new(big.Int).Mul(ch, c.images[0].At(0))
	want.Add(want, first).Sub(want, c.image(0, answers).At(0))
	inverse := new(big.Int).ModInverse(c.rows[0][last].At(0), sample.L())
	answers[last] = sample.Mod(want.Mul(want, inverse))
	return answers
}

func nothingElseOver[P msm.Group[P]](t *testing.T, m *sample.Maker, kind sample.Kind[P], shapes [][2]int) {
	t.Helper()
	for _, shape := range shapes {
		c := anyClaim(m, kind, shape[0], shape[1])
		for _, n := range append(sample.Small(0, 1, -1), m.Number()) {
			ch, answers := m.Limbs(n), limbs(m, someNumbers(m, shape[1]))
			first, e := sigma.Simulate(c.claim, ch, answers)
			errno(t, "Simulate over "+kind.Name, e, api.OK)
			errno(t, "Accepts over "+kind.Name, sigma.Accepts(c.claim, first, ch, answers), api.OK)

			d, xs := trueClaim(m, kind, shape[0], shape[1])
			nonces := limbs(m, someNumbers(m, shape[1]))
			said, _ := sigma.First(d.claim, nonces)
			answers, _ = sigma.Answer(nonces, limbs(m, xs), ch)
			made, _ := sigma.Simulate(d.claim, ch, answers)
			if !slices.EqualFunc(said, made, P.Same) {
				t.Errorf("over %s: the simulator says %v, the prover %v", kind.Name, made, said)
			}
		}
	}
}

func TestP1111NothingElseIsSaid(t *testing.T) {
	m := sample.Maker(1111)
	for range 2 {
		nothingElseOver(t, &m, sample.Lines(), shapes())
		nothingElseOver(t, &m, sample.Frees(), shapes())
		nothingElseOver(t, &m, sample.Boxes(), shapes())
	}
	nothingElseOver(t, &m, sample.Points(), fewShapes())
}

// A row without a relation, beside others: of many answers those alone are accepted that are the same modulo l.
func TestP1112OneAnswer(t *testing.T) {
	m := sample.Maker(1112)
	basis, _ := gens.Basis(0)
	for _, place := range []int{0, 1, 2} {
		c := anyClaim(&m, sample.Frees(), 3, 3)
		for i := range c.rows {
			c.rows[i] = []numbers{{}, {}, {}}
			c.claim.Rows[i] = make([]msm.Free, 3)
		}
		c.claim.Rows[place] = gens.All(basis)
		ch := m.Limbs(m.Number())
		var lists []numbers
		for _, x := range sample.Small(0, 1, -1) {
			for _, y := range sample.Small(0, 1, -1) {
				lists = append(lists, numbers{x, y, m.Number()}, numbers{x, y, big.NewInt(1)})
			}
		}
		for _, one := range lists {
			first, _ := sigma.Simulate(c.claim, ch, limbs(&m, one))
			for _, two := range lists {
				errno(t, "Accepts", sigma.Accepts(c.claim, first, ch, limbs(&m, two)), right(one.Same(two), api.ErrRejects))
			}
		}
	}
}
