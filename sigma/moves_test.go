package sigma_test

import (
	"math/big"
	"testing"

	"veil/api"
	"veil/msm"
	"veil/sample"
	"veil/scalar"
	"veil/sigma"
)

// right: the error, unless something is right.
func right(ok bool, e api.Errno) api.Errno {
	if ok {
		return api.OK
	}
	return e
}

func holdsOver[P msm.Group[P]](t *testing.T, m *sample.Maker, kind sample.Kind[P], shapes [][2]int) {
	t.Helper()
	for _, shape := range shapes {
		c, xs := trueClaim(m, kind, shape[0], shape[1])
		errno(t, "Holds over "+kind.Name, sigma.Holds(c.claim, limbs(m, xs)), api.OK)
		for j := range xs {
			wrong := other(xs, j)
			errno(t, "Holds over "+kind.Name, sigma.Holds(c.claim, limbs(m, wrong)), right(c.holds(wrong), api.ErrWitness))
		}
		for i, was := range c.images {
			c.images[i] = was.Plus(sample.Small(1))
			c.claim.Images[i] = kind.Of(m, c.images[i])
			errno(t, "Holds of another image over "+kind.Name, sigma.Holds(c.claim, limbs(m, xs)), api.ErrWitness)
			c.images[i], c.claim.Images[i] = was, kind.Of(m, was)
		}
		loose := anyClaim(m, kind, shape[0], shape[1])
		ys := someNumbers(m, shape[1])
		errno(t, "Holds of any claim over "+kind.Name, sigma.Holds(loose.claim, limbs(m, ys)), right(loose.holds(ys), api.ErrWitness))
	}
}

func TestP1102Holds(t *testing.T) {
	m := sample.Maker(1102)
	for range 3 {
		holdsOver(t, &m, sample.Lines(), shapes())
		holdsOver(t, &m, sample.Frees(), shapes())
		holdsOver(t, &m, sample.Boxes(), shapes())
	}
	holdsOver(t, &m, sample.Points(), fewShapes())
}

// Wide and high claims, beyond what sums of few terms are made by.
func TestP1102P1103GreatClaims(t *testing.T) {
	m := sample.Maker(11020)
	for _, shape := range [][2]int{{1, 300}, {300, 1}, {20, 40}} {
		c, xs := trueClaim(&m, sample.Lines(), shape[0], shape[1])
		errno(t, "Holds", sigma.Holds(c.claim, limbs(&m, xs)), api.OK)
		wrong := other(xs, shape[1]-1)
		errno(t, "Holds", sigma.Holds(c.claim, limbs(&m, wrong)), right(c.holds(wrong), api.ErrWitness))
		ch, answers := m.Number(), someNumbers(&m, shape[1])
		first, e := sigma.Simulate(c.claim, m.Limbs(ch), limbs(&m, answers))
		errno(t, "Simulate", e, api.OK)
		c.are(t, "Simulate", first, func(i int) numbers { return c.made(i, ch, answers) })
		errno(t, "Accepts", sigma.Accepts(c.claim, first, m.Limbs(ch), limbs(&m, answers)), api.OK)
	}
}

func firstOver[P msm.Group[P]](t *testing.T, m *sample.Maker, kind sample.Kind[P], shapes [][2]int) {
	t.Helper()
	for _, shape := range shapes {
		c := anyClaim(m, kind, shape[0], shape[1])
		nonces := someNumbers(m, shape[1])
		first, e := sigma.First(c.claim, limbs(m, nonces))
		errno(t, "First over "+kind.Name, e, api.OK)
		c.are(t, "First", first, func(i int) numbers { return c.image(i, nonces) })
	}
}

func TestP1103First(t *testing.T) {
	m := sample.Maker(1103)
	for range 3 {
		firstOver(t, &m, sample.Lines(), shapes())
		firstOver(t, &m, sample.Frees(), shapes())
		firstOver(t, &m, sample.Boxes(), shapes())
	}
	firstOver(t, &m, sample.Points(), fewShapes())
}

func TestP1103Answer(t *testing.T) {
	m := sample.Maker(11030)
	for nonceCount := range 5 {
		for xCount := range 5 {
			nonces, xs := someNumbers(&m, nonceCount), someNumbers(&m, xCount)
			for _, ch := range append(sample.Small(0, 1, -1, 2), m.Number(), m.Number()) {
				got, e := sigma.Answer(limbs(&m, nonces), limbs(&m, xs), m.Limbs(ch))
				if nonceCount != xCount {
					noList(t, "Answer of unlike lengths", got, e, api.ErrLength)
					continue
				}
				errno(t, "Answer", e, api.OK)
				told(t, "Answer", got, answer(nonces, xs, ch))
			}
		}
	}
	if got, e := sigma.Answer(nil, []scalar.Scalar{}, scalar.Int(3)); e != api.OK || len(got) != 0 {
		t.Errorf("Answer of nothing: %v, %d", got, e)
	}
}

// conversation: a claim, a first message, a challenge and answers to it, which are accepted.
type conversation[P msm.Group[P]] struct {
	known[P]
	first   []numbers
	said    []P
	ch      *big.Int
	answers numbers
}

// anyConversation: of scalars that hold, behind any nonces.
func anyConversation[P msm.Group[P]](m *sample.Maker, kind sample.Kind[P], rows, width int) (conversation[P], numbers, numbers) {
	c, xs := trueClaim(m, kind, rows, width)
	nonces, ch := someNumbers(m, width), m.Number()
	talk := conversation[P]{known: c, ch: ch, answers: answer(nonces, xs, ch)}
	for i := range rows {
		talk.first = append(talk.first, c.image(i, nonces))
		talk.said = append(talk.said, kind.Of(m, talk.first[i]))
	}
	return talk, xs, nonces
}

// accepted: does Accepts answer what the words say?
func (c conversation[P]) accepted(t *testing.T, m *sample.Maker, ch *big.Int, answers numbers) {
	t.Helper()
	want := right(c.accepts(c.first, ch, answers), api.ErrRejects)
	errno(t, "Accepts over "+c.kind.Name, sigma.Accepts(c.claim, c.said, m.Limbs(ch), limbs(m, answers)), want)
}

func acceptsOver[P msm.Group[P]](t *testing.T, m *sample.Maker, kind sample.Kind[P], shapes [][2]int) {
	t.Helper()
	for _, shape := range shapes {
		c, _, _ := anyConversation(m, kind, shape[0], shape[1])
		if !c.accepts(c.first, c.ch, c.answers) {
			t.Fatal("the test's own conversation is wrong")
		}
		c.accepted(t, m, c.ch, c.answers)
		c.accepted(t, m, m.Number(), c.answers)
		c.accepted(t, m, new(big.Int), c.answers)
		for j := range c.answers {
			c.accepted(t, m, c.ch, other(c.answers, j))
		}
		for i := range c.first {
			was, element := c.first[i], c.said[i]
			c.first[i] = was.Plus(sample.Small(1))
			c.said[i] = kind.Of(m, c.first[i])
			c.accepted(t, m, c.ch, c.answers)
			c.first[i], c.said[i] = was, element
		}
	}
}

func TestP1103Accepts(t *testing.T) {
	m := sample.Maker(110300)
	for range 3 {
		acceptsOver(t, &m, sample.Lines(), shapes())
		acceptsOver(t, &m, sample.Frees(), shapes())
		acceptsOver(t, &m, sample.Boxes(), shapes())
	}
	acceptsOver(t, &m, sample.Points(), fewShapes())
}

func extractOver[P msm.Group[P]](t *testing.T, m *sample.Maker, kind sample.Kind[P], shapes [][2]int) {
	t.Helper()
	for _, shape := range shapes {
		c, xs, nonces := anyConversation(m, kind, shape[0], shape[1])
		ch2 := other(numbers{c.ch}, 0)[0]
		if m.Next()%2 == 0 {
			ch2 = sample.Mod(new(big.Int).Sub(c.ch, sample.Power2(200)))
		}
		a2 := answer(nonces, xs, ch2)
		extract := func(ch1 *big.Int, a1 numbers, ch2 *big.Int, a2 numbers) ([]scalar.Scalar, api.Errno) {
			return sigma.Extract(c.claim, c.said, m.Limbs(ch1), limbs(m, a1), m.Limbs(ch2), limbs(m, a2))
		}
		got, e := extract(c.ch, c.answers, ch2, a2)
		errno(t, "Extract over "+kind.Name, e, api.OK)
		told(t, "Extract over "+kind.Name, got, xs)
		got, e = extract(ch2, a2, c.ch, c.answers)
		errno(t, "Extract over "+kind.Name, e, api.OK)
		told(t, "Extract over "+kind.Name, got, xs)

		got, e = extract(c.ch, c.answers, c.ch, c.answers)
		noList(t, "Extract of one challenge", got, e, api.ErrSame)
		got, e = extract(ch2, c.answers, ch2, a2)
		noList(t, "Extract of one challenge, one of its answers wrong", got, e, api.ErrSame)
		for j := range xs {
			wrong1, wrong2 := other(c.answers, j), other(a2, j)
			got, e = extract(c.ch, wrong1, ch2, a2)
			if !c.accepts(c.first, c.ch, wrong1) {
				noList(t, "Extract of a wrong first answer", got, e, api.ErrRejects)
			}
			got, e = extract(c.ch, c.answers, ch2, wrong2)
			if !c.accepts(c.first, ch2, wrong2) {
				noList(t, "Extract of a wrong second answer", got, e, api.ErrRejects)
			}
		}
	}
}

func TestP1104Extract(t *testing.T) {
	m := sample.Maker(1104)
	for range 3 {
		extractOver(t, &m, sample.Lines(), shapes())
		extractOver(t, &m, sample.Frees(), shapes())
		extractOver(t, &m, sample.Boxes(), shapes())
	}
	extractOver(t, &m, sample.Points(), fewShapes())
}

func simulateOver[P msm.Group[P]](t *testing.T, m *sample.Maker, kind sample.Kind[P], shapes [][2]int) {
	t.Helper()
	for _, shape := range shapes {
		c := anyClaim(m, kind, shape[0], shape[1])
		for _, ch := range append(sample.Small(0, 1, -1), m.Number()) {
			answers := someNumbers(m, shape[1])
			first, e := sigma.Simulate(c.claim, m.Limbs(ch), limbs(m, answers))
			errno(t, "Simulate over "+kind.Name, e, api.OK)
			c.are(t, "Simulate", first, func(i int) numbers { return c.made(i, ch, answers) })
		}
	}
}

func TestP1104Simulate(t *testing.T) {
	m := sample.Maker(11040)
	for range 3 {
		simulateOver(t, &m, sample.Lines(), shapes())
		simulateOver(t, &m, sample.Frees(), shapes())
		simulateOver(t, &m, sample.Boxes(), shapes())
	}
	simulateOver(t, &m, sample.Points(), fewShapes())
}
