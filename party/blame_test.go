package party_test

// P1404 and P1409: which shares a dealer calls wrong, and that the proof of those that it calls right is accepted.

import (
	"math/big"
	"slices"
	"testing"

	"veil/api"
	"veil/msm"
	"veil/party"
	"veil/sample"
	"veil/transcript"
)

// stage: a dealer behind so many answers, the parties' messages at hand.
type stage[P msm.Group[P]] struct {
	d      *party.Dealer[P]
	o      *oracle
	bits   []party.Bit[P]
	polys  []party.Poly[P]
	shares []party.Share
}

// stageOver: messages of these numbers, and a dealer whose Oracle answers these challenges.
func stageOver[P msm.Group[P]](t *testing.T, m *sample.Maker, kind sample.Kind[P], w world, list []said, o *oracle, answers int) *stage[P] {
	t.Helper()
	s := &stage[P]{o: o}
	s.bits, s.polys, s.shares = messages(m, kind, list)
	d, e := party.NewDealer(setOf(m, kind, w), w.p, o)
	errno(t, "NewDealer", e, api.OK)
	heard(t, "NewDealer", o.heard, nil)
	s.d = d
	if answers > 0 {
		_, _, e := d.Bits(mixed(m, s.bits)...)
		errno(t, "Bits", e, api.OK)
	}
	if answers > 1 {
		_, e := d.Polys(mixed(m, s.polys)...)
		errno(t, "Polys", e, api.OK)
	}
	return s
}

// saidBy: what parties with any secrets say to these challenges.
func saidBy(m *sample.Maker, w world, a asked) []said {
	var list []said
	for j, k := range anySecrets(m, w.p) {
		list = append(list, w.said(j, k, a))
	}
	return list
}

// judgedOver: Shares must name just the places whose messages are not right, or answer a proof that is accepted.
func judgedOver[P msm.Group[P]](t *testing.T, m *sample.Maker, kind sample.Kind[P], w world, list []said, a asked) {
	t.Helper()
	var want []int
	for j, x := range list {
		if w.judged(x, a) != api.OK {
			want = append(want, j)
		}
	}
	s := stageOver(t, m, kind, w, list, answering(m, a), 2)
	before := len(s.o.heard)
	v, proof, places, e := s.d.Shares(mixed(m, s.shares)...)
	if len(want) > 0 {
		noProof(t, "Shares", v, proof, e, api.ErrShares)
		heard(t, "Shares behind ErrShares", s.o.heard[before:], nil)
	} else {
		errno(t, "Shares", e, api.OK)
		accepted(t, "Shares over "+kind.Name, setOf(m, kind, w), w.p, v, proof, func() transcript.Oracle { return answering(m, a) })
	}
	if !slices.Equal(places, want) {
		t.Errorf("over %s: the places %v, want %v", kind.Name, places, want)
	}
}

func blameOver[P msm.Group[P]](t *testing.T, m *sample.Maker, kind sample.Kind[P], list []api.Params) {
	t.Helper()
	for _, p := range list {
		w, a := anyWorld(m, kind, p), anyAsked(m, p)
		good := saidBy(m, w, a)
		for j := range good {
			// One place's messages, changed in one field.
			for _, y := range turns(m, good[j], kind.Any(m)) {
				list := slices.Clone(good)
				list[j] = y
				judgedOver(t, m, kind, w, list, a)
			}
		}
		// Any of many places'.
		for range 4 {
			list := slices.Clone(good)
			for j := range list {
				if some := turns(m, list[j], kind.Any(m)); m.Next()%2 == 0 {
					list[j] = some[m.Next()%uint64(len(some))]
				}
			}
			judgedOver(t, m, kind, w, list, a)
		}
		// Nobody's.
		for j := range good {
			good[j] = anySaid(m, kind, p, j)
		}
		judgedOver(t, m, kind, w, good, a)
	}
}

func TestP1404P1409Blame(t *testing.T) {
	t.Parallel()
	m := sample.Maker(1409)
	blameOver(t, &m, sample.Lines(), allParams(16))
	blameOver(t, &m, sample.Frees(), allParams(8))
	blameOver(t, &m, sample.Boxes(), allParams(4))
	blameOver(t, &m, sample.Points(), allParams(2))
}

// The sums stay as they were: what is added at one place is taken away at another. Both are named.
func TestP1404P1409SumsAsTheyWere(t *testing.T) {
	m := sample.Maker(14090)
	kind := sample.Lines()
	for _, p := range []api.Params{{Bits: 1, Count: 2}, {Bits: 2, Count: 4}, {Bits: 4, Count: 16}} {
		w, a := anyWorld(&m, kind, p), anyAsked(&m, p)
		w.b, w.blind = numbers{big.NewInt(3)}, numbers{big.NewInt(5)}
		good := saidBy(&m, w, a)
		single := func() []int {
			i, j := int(m.Next()%uint64(p.Count)), int(m.Next()%uint64(p.Count))
			for i == j {
				j = int(m.Next() % uint64(p.Count))
			}
			return []int{min(i, j), max(i, j)}
		}
		by, elements := chance(&m), numbers{chance(&m)}
		for _, turn := range []func(y *said, by *big.Int, elements numbers){
			func(y *said, by *big.Int, _ numbers) { y.taux = plus(y.taux, by) },
			func(y *said, by *big.Int, _ numbers) { y.mu = plus(y.mu, by) },
			func(y *said, by *big.Int, _ numbers) { y.that = plus(y.that, by) },
			func(y *said, _ *big.Int, elements numbers) { y.a = y.a.Plus(elements) },
			func(y *said, _ *big.Int, elements numbers) { y.s = y.s.Plus(elements) },
			func(y *said, _ *big.Int, elements numbers) { y.t1 = y.t1.Plus(elements) },
			func(y *said, _ *big.Int, elements numbers) { y.t2 = y.t2.Plus(elements) },
		} {
			list, places := slices.Clone(good), single()
			turn(&list[places[0]], by, elements)
			turn(&list[places[1]], sample.Mod(new(big.Int).Neg(by)), elements.Times(big.NewInt(-1)))
			s := stageOver(t, &m, kind, w, list, answering(&m, a), 2)
			v, proof, got, e := s.d.Shares(mixed(&m, s.shares)...)
			noProof(t, "Shares", v, proof, e, api.ErrShares)
			if !slices.Equal(got, places) {
				t.Errorf("the places %v, want %v", got, places)
			}
		}
	}
}

// Shares that no party made, but that are right, since over Line taux and mu can make up for any l and r: the proof is accepted.
func TestP1409RightSharesOfNoParty(t *testing.T) {
	m := sample.Maker(14091)
	kind := sample.Lines()
	for _, p := range allParams(64) {
		w, a := anyWorld(&m, kind, p), anyAsked(&m, p)
		w.blind = numbers{chance(&m)}
		down := inverse(w.blind[0])
		list := saidBy(&m, w, a)
		for j := range list {
			x := anySaid(&m, kind, p, j)
			x.that = inner(x.l, x.r)
			x.taux = minus(x.taux, times(w.first(x, a).At(0), down))
			x.mu = plus(x.mu, times(w.second(x, a).At(0), down))
			errno(t, "judged", w.judged(x, a), api.OK)
			list[j] = x
		}
		judgedOver(t, &m, kind, w, list, a)
	}
}

// Shares whose lists are too short or too long are wrong ones, like all others.
func TestP1404LengthsOfShares(t *testing.T) {
	m := sample.Maker(14040)
	kind, p := sample.Lines(), api.Params{Bits: 2, Count: 4}
	w, a := anyWorld(&m, kind, p), anyAsked(&m, p)
	good := saidBy(&m, w, a)
	for j := range p.Count {
		for _, turn := range []func(s *party.Share){
			func(s *party.Share) { s.L = s.L[1:] },
			func(s *party.Share) { s.R = nil },
			func(s *party.Share) { s.L = append(s.L, num(0)) },
			func(s *party.Share) { s.R = append(s.R, num(4)) },
			func(s *party.Share) { s.L, s.R = nil, nil },
		} {
			s := stageOver(t, &m, kind, w, good, answering(&m, a), 2)
			bad := slices.Clone(s.shares)
			turn(&bad[j])
			v, proof, places, e := s.d.Shares(bad...)
			noProof(t, "Shares", v, proof, e, api.ErrShares)
			if !slices.Equal(places, []int{j}) {
				t.Errorf("the places %v, want %d", places, j)
			}
			// As many scalars in all as there should be, by a neighbour's.
			next := (j + 1) % p.Count
			bad[next].L, bad[next].R = append(bad[next].L, num(1)), append(bad[next].R, num(1))
			_, _, places, e = s.d.Shares(bad...)
			errno(t, "Shares", e, api.ErrShares)
			if !slices.Equal(places, []int{min(j, next), max(j, next)}) {
				t.Errorf("the places %v, want %d and %d", places, j, next)
			}
			_, _, places, e = s.d.Shares(s.shares...)
			errno(t, "Shares behind ErrShares", e, api.OK)
			if len(places) != 0 {
				t.Errorf("the places %v beside a proof", places)
			}
		}
	}
}
