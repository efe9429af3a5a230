package party_test

// P1402: what a party says, when, and what it refuses.

import (
	"testing"

	"veil/api"
	"veil/msm"
	"veil/party"
	"veil/ranges"
	"veil/sample"
	"veil/scalar"
)

func partiesOver[P msm.Group[P]](t *testing.T, m *sample.Maker, kind sample.Kind[P], list []api.Params) {
	t.Helper()
	for _, p := range list {
		w, a := anyWorld(m, kind, p), anyAsked(m, p)
		g := setOf(m, kind, w)
		for j, k := range anySecrets(m, p) {
			want := w.said(j, k, a)
			q, b, e := party.Join(g, p, j, openingOf(m, k), tapeOf(m, k))
			errno(t, "Join", e, api.OK)
			isBit(t, kind, b, want)
			y, z, x := m.Limbs(a.y), m.Limbs(a.z), m.Limbs(a.x)
			poly, e := q.Poly(y, z)
			errno(t, "Poly", e, api.OK)
			isPoly(t, kind, poly, want)
			share, e := q.Share(x)
			errno(t, "Share", e, api.OK)
			isShare(t, share, want)
			errno(t, "Right", party.Right(g, p, b, poly, share, y, z, x), api.OK)
		}
	}
}

func TestP1402P1409Parties(t *testing.T) {
	t.Parallel()
	m := sample.Maker(1402)
	for range 3 {
		partiesOver(t, &m, sample.Lines(), allParams(32))
		partiesOver(t, &m, sample.Frees(), allParams(16))
		partiesOver(t, &m, sample.Boxes(), allParams(16))
	}
	partiesOver(t, &m, sample.Lines(), []api.Params{{Bits: 64, Count: 1}, {Bits: 1, Count: 16}, {Bits: 16, Count: 8}, {Bits: 64, Count: 16}})
	partiesOver(t, &m, sample.Points(), allParams(4))
}

// The phases of a party: what is not its turn, and what is 0, changes nothing.
func TestP1402Phases(t *testing.T) {
	m := sample.Maker(14020)
	kind, p := sample.Frees(), api.Params{Bits: 2, Count: 4}
	w, k, a := anyWorld(&m, kind, p), anySecrets(&m, p)[2], anyAsked(&m, p)
	want := w.said(2, k, a)
	q, _, e := party.Join(setOf(&m, kind, w), p, 2, openingOf(&m, k), tapeOf(&m, k))
	errno(t, "Join", e, api.OK)
	y, z, x := m.Limbs(a.y), m.Limbs(a.z), m.Limbs(a.x)
	poly := func(what string, y, z scalar.Scalar, want api.Errno) {
		t.Helper()
		m, e := q.Poly(y, z)
		noPoly(t, what, m, e, want)
	}
	share := func(what string, x scalar.Scalar, want api.Errno) {
		t.Helper()
		s, e := q.Share(x)
		noShare(t, what, s, e, want)
	}
	for _, zero := range zeros() {
		share("Share ahead of Poly", x, api.ErrPhase)
		share("Share(0) ahead of Poly", zero, api.ErrPhase)
		poly("Poly(0, z)", zero, z, api.ErrZero)
		poly("Poly(y, 0)", y, zero, api.ErrZero)
		poly("Poly(0, 0)", zero, zero, api.ErrZero)
	}
	second, e := q.Poly(y, z)
	errno(t, "Poly", e, api.OK)
	isPoly(t, kind, second, want)
	for _, zero := range zeros() {
		poly("a second Poly", y, z, api.ErrPhase)
		poly("another Poly", z, y, api.ErrPhase)
		poly("a second Poly(0, 0)", zero, zero, api.ErrPhase)
		share("Share(0)", zero, api.ErrZero)
	}
	third, e := q.Share(x)
	errno(t, "Share", e, api.OK)
	isShare(t, third, want)
	for _, zero := range zeros() {
		poly("Poly behind Share", y, z, api.ErrPhase)
		poly("Poly(0, 0) behind Share", zero, zero, api.ErrPhase)
		share("a second Share", x, api.ErrPhase)
		share("another Share", y, api.ErrPhase)
		share("a second Share(0)", zero, api.ErrPhase)
	}
}

// A Party that Join didn't make counts as nil.
func TestP1402NoParty(t *testing.T) {
	for _, q := range []*party.Party[msm.Line]{nil, {}, new(party.Party[msm.Line])} {
		for _, k := range append(zeros(), num(1)) {
			m, e := q.Poly(k, k)
			noPoly(t, "Poly", m, e, api.ErrArg)
			s, e := q.Share(k)
			noShare(t, "Share", s, e, api.ErrArg)
		}
	}
}

// Parties that are asked in turn don't meet.
func TestP1402PartiesAreApart(t *testing.T) {
	m := sample.Maker(14021)
	kind, p := sample.Frees(), api.Params{Bits: 4, Count: 4}
	w := anyWorld(&m, kind, p)
	g, ks := setOf(&m, kind, w), anySecrets(&m, p)
	var parties []*party.Party[msm.Free]
	var as []asked
	for j, k := range ks {
		q, _, _ := party.Join(g, p, j, openingOf(&m, k), tapeOf(&m, k))
		parties, as = append(parties, q), append(as, anyAsked(&m, p))
	}
	for j, q := range parties {
		poly, e := q.Poly(m.Limbs(as[j].y), m.Limbs(as[j].z))
		errno(t, "Poly", e, api.OK)
		isPoly(t, kind, poly, w.said(j, ks[j], as[j]))
	}
	for j, q := range parties {
		share, e := q.Share(m.Limbs(as[j].x))
		errno(t, "Share", e, api.OK)
		isShare(t, share, w.said(j, ks[j], as[j]))
	}
}

// 0 and 2^n - 1 are taken; 2^n and more are refused; of 64 bits nothing is.
func TestP1402Values(t *testing.T) {
	for bits := 1; bits <= api.MaxBits; bits *= 2 {
		p := api.Params{Bits: bits, Count: 2}
		top := uint64(1) << bits // 0 for 64 bits
		for _, v := range []uint64{0, 1, top - 1, top, top + 1, top * 2, 1<<64 - 1} {
			for j := range p.Count {
				q, b, e := party.Join(lineSet(p.Size(), p.Size()), p, j, ranges.Opening{V: v}, tapeOfLength(bits, bits))
				if fits := bits == 64 || v < top; fits {
					errno(t, "Join", e, api.OK)
				} else {
					noBit(t, "Join", q, b, e, api.ErrValue)
				}
			}
		}
	}
}

// tapeOfLength: with lists of these lengths.
func tapeOfLength(sL, sR int) ranges.Tape {
	tape := ranges.Tape{Alpha: num(1), Rho: num(2), Tau1: num(3), Tau2: num(4)}
	for i := range max(sL, 0) {
		tape.SL = append(tape.SL, num(int64(5+i)))
	}
	for i := range max(sR, 0) {
		tape.SR = append(tape.SR, num(int64(6+i)))
	}
	return tape
}

// Wrong inputs, alone and together: which error comes first.
func TestP1402OrderOfErrors(t *testing.T) {
	steps := []int{-1, 0, 1}
	for _, p := range []api.Params{{Bits: 1, Count: 1}, {Bits: 1, Count: 2}, {Bits: 4, Count: 4}} {
		n := p.Size()
		for code := range 3 * 3 * 3 * 3 * 2 {
			step := func() int {
				by := steps[code%3]
				code /= 3
				return by
			}
			g, h, sL, sR := n+step(), n+step(), p.Bits+step(), p.Bits+step()
			v := uint64(code) << p.Bits // 0, or too great
			length := right(g >= n && h >= n && sL == p.Bits && sR == p.Bits, api.ErrLength)
			value := right(v == 0, api.ErrValue)
			join := func(p api.Params, place int, want api.Errno) {
				t.Helper()
				q, b, e := party.Join(lineSet(g, h), p, place, ranges.Opening{V: v}, tapeOfLength(sL, sR))
				if want == api.OK {
					errno(t, "Join", e, want)
				} else {
					noBit(t, "Join", q, b, e, want)
				}
			}
			for j := range p.Count {
				join(p, j, firstOf(length, value))
			}
			for _, j := range noPlaces(p) {
				join(p, j, api.ErrPlace)
			}
			for _, no := range noParams() {
				join(no, 0, api.ErrParams)
				join(no, -1, api.ErrParams)
				join(no, 99, api.ErrParams)
			}
		}
	}
}

// Generators with as many as one's own part, but not with N: too few. More than N: those behind are not looked at.
func TestP1402NumberOfGenerators(t *testing.T) {
	p := api.Params{Bits: 2, Count: 4}
	for j := range p.Count {
		for n := range p.Size() {
			q, b, e := party.Join(lineSet(n, p.Size()), p, j, ranges.Opening{}, tapeOfLength(2, 2))
			noBit(t, "Join with too few of G", q, b, e, api.ErrLength)
			q, b, e = party.Join(lineSet(p.Size(), n), p, j, ranges.Opening{}, tapeOfLength(2, 2))
			noBit(t, "Join with too few of H", q, b, e, api.ErrLength)
		}
		_, b, e := party.Join(lineSet(p.Size(), p.Size()), p, j, ranges.Opening{V: 3}, tapeOfLength(2, 2))
		errno(t, "Join", e, api.OK)
		_, c, e := party.Join(lineSet(3000, 4000), p, j, ranges.Opening{V: 3}, tapeOfLength(2, 2))
		errno(t, "Join with more", e, api.OK)
		if b != c {
			t.Errorf("place %d: more generators make another message", j)
		}
	}
}
