package party_test

// P1404 and P1405: whose turn it is at a dealer's, what is not all, and how it ends.

import (
	"slices"
	"testing"

	"veil/api"
	"veil/gens"
	"veil/msm"
	"veil/party"
	"veil/sample"
	"veil/scalar"
	"veil/transcript"
	"veil/wire"
)

// attempt: messages that are refused, and the error of that.
type attempt[M any] struct {
	list []M
	e    api.Errno
}

// attempts: messages that are not all. Where it isn't their turn they are refused for that, and so are those that are all.
func attempts[M any](p api.Params, good []M, theirs bool, move func(m M, place int) M) []attempt[M] {
	more := slices.Clip(good)
	all := []attempt[M]{
		{nil, api.ErrLength}, {good[1:], api.ErrLength}, {good[:len(good)-1], api.ErrLength},
		{append(more, good[0]), api.ErrLength}, {append(more, good...), api.ErrLength},
		{append(more, move(good[0], p.Count)), api.ErrLength}, {append(slices.Clip(good[1:]), move(good[0], -1), good[0]), api.ErrLength},
	}
	for i := range good {
		put := func(m M) {
			list := slices.Clone(good)
			list[i] = m
			all = append(all, attempt[M]{list, api.ErrPlace})
		}
		for _, place := range noPlaces(p) {
			put(move(good[i], place))
		}
		for j := range good {
			if i != j {
				put(good[j])          // one doubled, one left out
				put(move(good[i], j)) // two from one place
			}
		}
	}
	if !theirs {
		all = append(all, attempt[M]{good, api.OK})
		for i := range all {
			all[i].e = api.ErrPhase
		}
	}
	return all
}

// refuses: whatever is not all, or not its turn, must be refused; nothing is said. The turn is that of Bits 0, of Polys 1, of Shares 2, of none 3.
func refuses[P msm.Group[P]](t *testing.T, s *stage[P], p api.Params, turn int) {
	t.Helper()
	said := len(s.o.heard)
	for _, a := range attempts(p, s.bits, turn == 0, func(m party.Bit[P], place int) party.Bit[P] { m.Place = place; return m }) {
		y, z, e := s.d.Bits(a.list...)
		noChallenges(t, "Bits", e, a.e, y, z)
	}
	for _, a := range attempts(p, s.polys, turn == 1, func(m party.Poly[P], place int) party.Poly[P] { m.Place = place; return m }) {
		x, e := s.d.Polys(a.list...)
		noChallenges(t, "Polys", e, a.e, x)
	}
	for _, a := range attempts(p, s.shares, turn == 2, func(m party.Share, place int) party.Share { m.Place = place; return m }) {
		v, proof, places, e := s.d.Shares(a.list...)
		noProof(t, "Shares", v, proof, e, a.e)
		if len(places) != 0 {
			t.Errorf("Shares: places beside the error %d", e)
		}
	}
	if len(s.o.heard) != said {
		t.Error("something was said with an error")
	}
}

// Messages that are not all, and such as are not their turn; behind them the call comes again with those that are, and nothing is seen of the others.
func TestP1404P1405Refused(t *testing.T) {
	m := sample.Maker(14041)
	kind := sample.Lines()
	for _, p := range []api.Params{{Bits: 1, Count: 1}, {Bits: 2, Count: 2}, {Bits: 1, Count: 4}} {
		w, a := anyWorld(&m, kind, p), anyAsked(&m, p)
		s := stageOver(t, &m, kind, w, saidBy(&m, w, a), answering(&m, a), 0)
		refuses(t, s, p, 0)
		y, z, e := s.d.Bits(mixed(&m, s.bits)...)
		errno(t, "Bits", e, api.OK)
		told(t, "y and z", []scalar.Scalar{y, z}, a.y, a.z)
		refuses(t, s, p, 1)
		x, e := s.d.Polys(mixed(&m, s.polys)...)
		errno(t, "Polys", e, api.OK)
		told(t, "x", []scalar.Scalar{x}, a.x)
		refuses(t, s, p, 2)
		v, proof, places, e := s.d.Shares(mixed(&m, s.shares)...)
		errno(t, "Shares", e, api.OK)
		if len(places) != 0 {
			t.Errorf("the places %v beside a proof", places)
		}
		accepted(t, "Shares", setOf(&m, kind, w), p, v, proof, func() transcript.Oracle { return answering(&m, a) })
		refuses(t, s, p, 3)
	}
}

// The order in which messages come is not seen: all orders of four.
func TestP1404AnyOrder(t *testing.T) {
	m := sample.Maker(14042)
	kind, p := sample.Frees(), api.Params{Bits: 1, Count: 4}
	w, a := anyWorld(&m, kind, p), anyAsked(&m, p)
	s := stageOver(t, &m, kind, w, saidBy(&m, w, a), answering(&m, a), 0)
	g, given := setOf(&m, kind, w), limbs(&m, a.list())
	var v []msm.Free
	var x wire.Proof[msm.Free]
	for code := range 4 * 4 * 4 * 4 {
		order := []int{code % 4, code / 4 % 4, code / 16 % 4, code / 64}
		if slices.Equal(slices.Compact(slices.Sorted(slices.Values(order))), []int{0, 1, 2, 3}) {
			d, e := party.NewDealer(g, p, transcript.Given(given...))
			errno(t, "NewDealer", e, api.OK)
			_, _, e = d.Bits(ordered(order, s.bits)...)
			errno(t, "Bits", e, api.OK)
			_, e = d.Polys(ordered(order, s.polys)...)
			errno(t, "Polys", e, api.OK)
			v2, x2, _, e := d.Shares(ordered(order, s.shares)...)
			errno(t, "Shares", e, api.OK)
			if v == nil {
				v, x = v2, x2
			}
			sameProofs(t, "in another order", v2, x2, v, x)
		}
	}
	accepted(t, "in any order", g, p, v, x, func() transcript.Oracle { return transcript.Given(given...) })
}

func ordered[T any](order []int, list []T) []T {
	var out []T
	for _, i := range order {
		out = append(out, list[i])
	}
	return out
}

// endedOver: the Oracle ends it at some Draw, by an error or by a 0 with OK: what was said up to there was said, and the dealer is at its end.
func endedOver[P msm.Group[P]](t *testing.T, m *sample.Maker, kind sample.Kind[P], p api.Params) {
	t.Helper()
	w, ks, a := anyWorld(m, kind, p), anySecrets(m, p), anyAsked(m, p)
	g := setOf(m, kind, w)
	vs, tapes := handed(m, ks)
	single := answering(m, a)
	alone(t, g, p, vs, tapes, single)
	var list []said
	for j, k := range ks {
		list = append(list, w.said(j, k, a))
	}
	all := a.list()
	for good := range all {
		want := upTo(single.heard, good+1)
		run := func(what string, o func() *oracle, e api.Errno) {
			t.Helper()
			s := stageOver(t, m, kind, w, list, o(), min(max(good-1, 0), 2))
			switch {
			case good < 2:
				y, z, got := s.d.Bits(s.bits...)
				noChallenges(t, "Bits: "+what, got, e, y, z)
			case good < 3:
				x, got := s.d.Polys(s.polys...)
				noChallenges(t, "Polys: "+what, got, e, x)
			default:
				v, proof, places, got := s.d.Shares(s.shares...)
				noProof(t, "Shares: "+what, v, proof, got, e)
				if len(places) != 0 {
					t.Errorf("Shares: %s: places beside an error of the Oracle", what)
				}
			}
			heard(t, "a dealer: "+what, s.o.heard, want)
			refuses(t, s, p, 3)

			now := o()
			v, proof, got := party.Together(g, p, vs, tapes, now)
			noProof(t, "Together: "+what, v, proof, got, e)
			heard(t, "Together: "+what, now.heard, want)
		}
		given := limbs(m, all[:good])
		for _, e := range []api.Errno{api.ErrArg, api.ErrZero, api.ErrShort, api.ErrPhase, api.ErrShares, api.ErrSystem, 77, -1} {
			run("an error", func() *oracle { return &oracle{list: given, e: e} }, e)
		}
		for _, zero := range zeros() {
			list := append(slices.Clip(given), zero, num(5))
			run("0 with OK", func() *oracle { return &oracle{list: list} }, api.ErrZero)
		}
	}
}

func TestP1405P1407ErrorsOfTheOracle(t *testing.T) {
	t.Parallel()
	m := sample.Maker(1405)
	endedOver(t, &m, sample.Lines(), api.Params{Bits: 1, Count: 1})
	endedOver(t, &m, sample.Lines(), api.Params{Bits: 4, Count: 2})
	endedOver(t, &m, sample.Frees(), api.Params{Bits: 2, Count: 2})
	endedOver(t, &m, sample.Boxes(), api.Params{Bits: 1, Count: 4})
	endedOver(t, &m, sample.Points(), api.Params{Bits: 1, Count: 2})
}

// Oracles that hold a nil pointer, and such as nobody made, answer for themselves.
func TestP1404P1407OraclesThatAreNone(t *testing.T) {
	m := sample.Maker(14050)
	p := api.Params{Bits: 2, Count: 2}
	vs, tapes := handed(&m, anySecrets(&m, p))
	for _, o := range []transcript.Oracle{(*transcript.T)(nil), (*transcript.Script)(nil), new(transcript.T), new(transcript.Script)} {
		_, _, e := byHand(t, &m, lineSet(4, 4), p, vs, tapes, o)
		errno(t, "by hand", e, api.ErrArg)
		v, x, e := party.Together(lineSet(4, 4), p, vs, tapes, o)
		noProof(t, "Together", v, x, e, api.ErrArg)
	}
}

func TestP1404NewDealer(t *testing.T) {
	none := func(g gens.Set[msm.Line], p api.Params, o transcript.Oracle, want api.Errno) {
		t.Helper()
		d, e := party.NewDealer(g, p, o)
		errno(t, "NewDealer", e, want)
		if d != nil {
			t.Error("a dealer beside an error")
		}
	}
	for _, p := range noParams() {
		none(lineSet(0, 0), p, nil, api.ErrArg)
		none(lineSet(0, 0), p, &oracle{}, api.ErrParams)
		none(lineSet(2048, 2048), p, &oracle{}, api.ErrParams)
	}
	for _, p := range allParams(api.MaxSize) {
		n := p.Size()
		none(lineSet(n, n), p, nil, api.ErrArg)
		none(lineSet(n-1, n), p, nil, api.ErrArg)
		none(lineSet(n-1, n), p, &oracle{}, api.ErrLength)
		none(lineSet(n, n-1), p, &oracle{}, api.ErrLength)
		none(lineSet(n+1, 0), p, &oracle{}, api.ErrLength)
		for _, more := range []int{0, 1, 70} {
			o := &oracle{}
			d, e := party.NewDealer(lineSet(n+more, n+2*more), p, o)
			errno(t, "NewDealer", e, api.OK)
			heard(t, "NewDealer", o.heard, nil)
			if d == nil {
				t.Error("no dealer")
			}
		}
	}
}

// A Dealer that NewDealer didn't make counts as nil.
func TestP1404NoDealer(t *testing.T) {
	for _, d := range []*party.Dealer[msm.Line]{nil, {}, new(party.Dealer[msm.Line])} {
		for count := range 3 {
			y, z, e := d.Bits(make([]party.Bit[msm.Line], count)...)
			noChallenges(t, "Bits", e, api.ErrArg, y, z)
			x, e := d.Polys(make([]party.Poly[msm.Line], count)...)
			noChallenges(t, "Polys", e, api.ErrArg, x)
			v, proof, places, e := d.Shares(make([]party.Share, count)...)
			noProof(t, "Shares", v, proof, e, api.ErrArg)
			if len(places) != 0 {
				t.Error("Shares: places beside an error")
			}
		}
	}
}

// Dealers that are asked in turn don't meet.
func TestP1404DealersAreApart(t *testing.T) {
	m := sample.Maker(14043)
	kind, p := sample.Frees(), api.Params{Bits: 2, Count: 2}
	w := anyWorld(&m, kind, p)
	var stages []*stage[msm.Free]
	var as []asked
	for range 3 {
		a := anyAsked(&m, p)
		as = append(as, a)
		stages = append(stages, stageOver(t, &m, kind, w, saidBy(&m, w, a), answering(&m, a), 0))
	}
	for i, s := range stages {
		y, z, e := s.d.Bits(s.bits...)
		errno(t, "Bits", e, api.OK)
		told(t, "y and z", []scalar.Scalar{y, z}, as[i].y, as[i].z)
	}
	for i, s := range stages {
		x, e := s.d.Polys(s.polys...)
		errno(t, "Polys", e, api.OK)
		told(t, "x", []scalar.Scalar{x}, as[i].x)
	}
	for i, s := range stages {
		v, x, _, e := s.d.Shares(s.shares...)
		errno(t, "Shares", e, api.OK)
		accepted(t, "Shares", setOf(&m, kind, w), p, v, x, func() transcript.Oracle { return answering(&m, as[i]) })
	}
}
