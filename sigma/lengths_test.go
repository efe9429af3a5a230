package sigma_test

// P1101: claims that do not stand, lists that do not fit, and what is ahead of it.

import (
	"testing"

	"veil/api"
	"veil/msm"
	"veil/sample"
	"veil/scalar"
	"veil/sigma"
	"veil/transcript"
)

// fallen: claims that do not stand, with a width that might be taken for theirs.
func fallen[P msm.Group[P]](p P) []sigma.Claim[P] {
	return []sigma.Claim[P]{
		{},
		{Rows: [][]P{}, Images: []P{}},
		{Images: []P{p}},
		{Rows: [][]P{{p}}},
		{Rows: [][]P{{p, p}}, Images: []P{p, p}},
		{Rows: [][]P{nil}, Images: []P{p}},
		{Rows: [][]P{{}, {}}, Images: []P{p, p}},
		{Rows: [][]P{{p}, {}}, Images: []P{p, p}},
		{Rows: [][]P{{}, {p}}, Images: []P{p, p}},
		{Rows: [][]P{{p}, {p}}, Images: []P{p}},
		{Rows: [][]P{{p}, {p}}, Images: []P{p, p, p}},
		{Rows: [][]P{{p}, {p, p}}, Images: []P{p, p}},
		{Rows: [][]P{{p, p}, {p, p}, {p}}, Images: []P{p, p, p}},
		{Rows: [][]P{{p, p}, {p, p, p}, {p, p}}, Images: []P{p, p, p}},
	}
}

// some: so many scalars.
func some(count int) []scalar.Scalar { return make([]scalar.Scalar, count) }

// everyCall: all calls of one claim must answer ErrLength alone, with a list and a first message of these lengths, and say nothing; but ErrArg without an Oracle.
func everyCall[P msm.Group[P]](t *testing.T, c sigma.Claim[P], count, rows int) {
	t.Helper()
	ks, first := some(count), make([]P, rows)
	errno(t, "Holds", sigma.Holds(c, ks), api.ErrLength)
	list, e := sigma.First(c, ks)
	noList(t, "First", list, e, api.ErrLength)
	errno(t, "Accepts", sigma.Accepts(c, first, scalar.Int(2), ks), api.ErrLength)
	for _, ch := range []scalar.Scalar{scalar.Int(2), scalar.Int(3)} {
		xs, e := sigma.Extract(c, first, scalar.Int(2), ks, ch, ks)
		noList(t, "Extract", xs, e, api.ErrLength)
	}
	list, e = sigma.Simulate(c, scalar.Int(2), ks)
	noList(t, "Simulate", list, e, api.ErrLength)
	o := transcript.Given(scalar.Int(7), scalar.Int(7))
	p, e := sigma.Prove(c, ks, ks, o)
	noProof(t, "Prove", p, e, api.ErrLength)
	errno(t, "Verify", sigma.Verify(c, sigma.Proof{C: scalar.Int(7), Answers: ks}, o), api.ErrLength)
	heard(t, "Prove and Verify", o.Heard())
	p, e = sigma.Prove(c, ks, ks, nil)
	noProof(t, "Prove without an Oracle", p, e, api.ErrArg)
	errno(t, "Verify without an Oracle", sigma.Verify(c, sigma.Proof{Answers: ks}, nil), api.ErrArg)
}

// everyEither: the same of the calls of two claims.
func everyEither[P msm.Group[P]](t *testing.T, a, b sigma.Claim[P], first, second int) {
	t.Helper()
	o := transcript.Given(scalar.Int(7), scalar.Int(7), scalar.Int(7))
	for known := 1; known <= 2; known++ {
		xs, made := some(first), some(second)
		if known == 2 {
			xs, made = made, xs
		}
		p, e := sigma.ProveEither(a, b, known, xs, xs, scalar.Int(2), made, o)
		noEither(t, "ProveEither", p, e, api.ErrLength)
		p, e = sigma.ProveEither(a, b, known, xs, xs, scalar.Int(2), made, nil)
		noEither(t, "ProveEither without an Oracle", p, e, api.ErrArg)
	}
	proof := sigma.Either{C1: scalar.Int(7), A1: some(first), A2: some(second)}
	errno(t, "VerifyEither", sigma.VerifyEither(a, b, proof, o), api.ErrLength)
	errno(t, "VerifyEither without an Oracle", sigma.VerifyEither(a, b, proof, nil), api.ErrArg)
	heard(t, "ProveEither and VerifyEither", o.Heard())
}

func standingOver[P msm.Group[P]](t *testing.T, p P) {
	t.Helper()
	good := sigma.Claim[P]{Rows: [][]P{{p}}, Images: []P{p}}
	for _, c := range fallen(p) {
		for count := range 4 {
			for rows := range 4 {
				everyCall(t, c, count, rows)
			}
			everyEither(t, c, good, count, 1)
			everyEither(t, good, c, 1, count)
			everyEither(t, c, c, count, count)
		}
	}
}

func TestP1101ClaimsThatDoNotStand(t *testing.T) {
	m := sample.Maker(1101)
	standingOver(t, line(3))
	standingOver(t, msm.Line{})
	standingOver(t, sample.Frees().Of(&m, sample.Small(1, 2, 3)))
	standingOver(t, sample.Boxes().Of(&m, sample.Small(4)))
	standingOver(t, sample.Points().Of(&m, sample.Small(5)))
}

// zeros: a claim that every list of scalars that fits it holds in.
func zeros(rows, width int) sigma.Claim[msm.Line] {
	c := sigma.Claim[msm.Line]{Images: make([]msm.Line, rows)}
	for range rows {
		c.Rows = append(c.Rows, make([]msm.Line, width))
	}
	return c
}

func TestP1101ListsThatDoNotFit(t *testing.T) {
	for _, shape := range shapes() {
		rows, width := shape[0], shape[1]
		c := zeros(rows, width)
		errno(t, "Holds", sigma.Holds(c, some(width)), api.OK)
		for _, count := range []int{0, width - 1, width + 1, 2 * width, rows * width} {
			if count != width {
				everyCall(t, c, count, rows)
				everyEither(t, c, zeros(1, 2), count, 2)
				everyEither(t, zeros(2, 1), c, 1, count)
			}
		}
		for _, first := range []int{0, rows - 1, rows + 1, rows * width} {
			if first == rows {
				continue
			}
			errno(t, "Accepts", sigma.Accepts(c, make([]msm.Line, first), scalar.Int(2), some(width)), api.ErrLength)
			for _, ch := range []scalar.Scalar{scalar.Int(2), scalar.Int(3)} {
				xs, e := sigma.Extract(c, make([]msm.Line, first), scalar.Int(2), some(width), ch, some(width))
				noList(t, "Extract", xs, e, api.ErrLength)
			}
		}
	}
}

// One list alone does not fit, and what comes behind would be wrong, too.
func TestP1101OneListThatDoesNotFit(t *testing.T) {
	c, o := sigma.Key(line(1), line(5)), transcript.Given(scalar.Int(7))
	wrong, long := ints(6), ints(6, 6)
	for _, lists := range [][2][]scalar.Scalar{{wrong, long}, {long, wrong}, {wrong, nil}, {nil, wrong}} {
		p, e := sigma.Prove(c, lists[0], lists[1], o)
		noProof(t, "Prove", p, e, api.ErrLength)
		xs, e := sigma.Extract(c, []msm.Line{line(3)}, scalar.Int(2), lists[0], scalar.Int(2), lists[1])
		noList(t, "Extract", xs, e, api.ErrLength)
		xs, e = sigma.Extract(c, []msm.Line{line(3)}, scalar.Int(2), lists[0], scalar.Int(4), lists[1])
		noList(t, "Extract", xs, e, api.ErrLength)
		errno(t, "VerifyEither", sigma.VerifyEither(c, c, sigma.Either{A1: lists[0], A2: lists[1]}, o), api.ErrLength)
		for known := 1; known <= 2; known++ {
			either, e := sigma.ProveEither(c, c, known, lists[0], lists[1], scalar.Int(3), wrong, o)
			noEither(t, "ProveEither", either, e, api.ErrLength)
			either, e = sigma.ProveEither(c, c, known, lists[0], wrong, scalar.Int(3), lists[1], o)
			noEither(t, "ProveEither", either, e, api.ErrLength)
		}
	}
	heard(t, "lists that do not fit", o.Heard())
}

// The lists of two claims of unlike widths belong each to its own.
func TestP1106ListsOfUnlikeClaims(t *testing.T) {
	a, b := zeros(1, 2), zeros(3, 1)
	for known, fit := range [][2]int{{2, 1}, {1, 2}} {
		for mine := range 4 {
			for nonces := range 4 {
				for made := range 4 {
					want := right(mine == fit[0] && nonces == fit[0] && made == fit[1], api.ErrLength)
					_, e := sigma.ProveEither(a, b, known+1, some(mine), some(nonces), scalar.Int(3), some(made), transcript.Given(scalar.Int(7)))
					errno(t, "ProveEither", e, want)
				}
			}
		}
	}
}
