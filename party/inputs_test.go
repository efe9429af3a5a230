package party_test

// Inputs that are made up, as numbers and as what the calls take; an Oracle; and what answers are held against numbers by.

import (
	"math"
	"math/big"
	"slices"
	"testing"

	"veil/api"
	"veil/gens"
	"veil/msm"
	"veil/party"
	"veil/ranges"
	"veil/sample"
	"veil/scalar"
	"veil/transcript"
	"veil/wire"
)

// someNumbers: any, so many.
func someNumbers(m *sample.Maker, count int) numbers {
	list := make(numbers, count)
	for i := range list {
		list[i] = m.Number()
	}
	return list
}

// chance: any but 0; 1 and -1 come up often.
func chance(m *sample.Maker) *big.Int {
	for {
		if n := m.Number(); n.Sign() != 0 {
			return n
		}
	}
}

// anyWorld: any generators, some more than are looked at.
func anyWorld[P msm.Group[P]](m *sample.Maker, kind sample.Kind[P], p api.Params) world {
	w := world{p: p, b: kind.Any(m), blind: kind.Any(m), q: kind.Any(m)}
	for range p.Size() + int(m.Next()%3) {
		w.g = append(w.g, kind.Any(m))
	}
	for range p.Size() + int(m.Next()%3) {
		w.h = append(w.h, kind.Any(m))
	}
	return w
}

// anyValue: below 2^n; the least and the greatest come up often.
func anyValue(m *sample.Maker, p api.Params) uint64 {
	top := uint64(1)<<p.Bits - 1
	switch m.Next() % 4 {
	case 0:
		return 0
	case 1:
		return top
	}
	return m.Next() & top
}

// anySecrets: one for each place.
func anySecrets(m *sample.Maker, p api.Params) []secret {
	var list []secret
	for range p.Count {
		list = append(list, secret{
			v: anyValue(m, p), blind: m.Number(), alpha: m.Number(), rho: m.Number(), tau1: m.Number(), tau2: m.Number(),
			sL: someNumbers(m, p.Bits), sR: someNumbers(m, p.Bits),
		})
	}
	return list
}

// anyAsked: challenges, none of them 0.
func anyAsked(m *sample.Maker, p api.Params) asked {
	a := asked{y: chance(m), z: chance(m), x: chance(m), w: chance(m), c: chance(m)}
	for range p.Rounds() {
		a.us = append(a.us, chance(m))
	}
	return a
}

// limbs: scalars that stand for numbers, by any of their limbs.
func limbs(m *sample.Maker, ns numbers) []scalar.Scalar {
	list := make([]scalar.Scalar, len(ns))
	for i, n := range ns {
		list[i] = m.Limbs(n)
	}
	return list
}

func setOf[P msm.Group[P]](m *sample.Maker, kind sample.Kind[P], w world) gens.Set[P] {
	g := gens.Set[P]{B: kind.Of(m, w.b), Blind: kind.Of(m, w.blind), Q: kind.Of(m, w.q)}
	for _, ns := range w.g {
		g.G = append(g.G, kind.Of(m, ns))
	}
	for _, ns := range w.h {
		g.H = append(g.H, kind.Of(m, ns))
	}
	return g
}

func openingOf(m *sample.Maker, k secret) ranges.Opening {
	return ranges.Opening{V: k.v, Blind: m.Limbs(k.blind)}
}

func tapeOf(m *sample.Maker, k secret) ranges.Tape {
	return ranges.Tape{Alpha: m.Limbs(k.alpha), Rho: m.Limbs(k.rho), Tau1: m.Limbs(k.tau1), Tau2: m.Limbs(k.tau2), SL: limbs(m, k.sL), SR: limbs(m, k.sR)}
}

// handed: the openings and tapes of all places.
func handed(m *sample.Maker, ks []secret) (vs []ranges.Opening, tapes []ranges.Tape) {
	for _, k := range ks {
		vs, tapes = append(vs, openingOf(m, k)), append(tapes, tapeOf(m, k))
	}
	return vs, tapes
}

func bitOf[P msm.Group[P]](m *sample.Maker, kind sample.Kind[P], x said) party.Bit[P] {
	return party.Bit[P]{Place: x.place, V: kind.Of(m, x.v), A: kind.Of(m, x.a), S: kind.Of(m, x.s)}
}

func polyOf[P msm.Group[P]](m *sample.Maker, kind sample.Kind[P], x said) party.Poly[P] {
	return party.Poly[P]{Place: x.place, T1: kind.Of(m, x.t1), T2: kind.Of(m, x.t2)}
}

func shareOf(m *sample.Maker, x said) party.Share {
	return party.Share{Place: x.place, TauX: m.Limbs(x.taux), Mu: m.Limbs(x.mu), That: m.Limbs(x.that), L: limbs(m, x.l), R: limbs(m, x.r)}
}

// messages: of all places, one kind of them each.
func messages[P msm.Group[P]](m *sample.Maker, kind sample.Kind[P], list []said) (bits []party.Bit[P], polys []party.Poly[P], shares []party.Share) {
	for _, x := range list {
		bits, polys, shares = append(bits, bitOf(m, kind, x)), append(polys, polyOf(m, kind, x)), append(shares, shareOf(m, x))
	}
	return bits, polys, shares
}

// mixed: the same in any order.
func mixed[T any](m *sample.Maker, list []T) []T {
	list = slices.Clone(list)
	for i := range list {
		j := int(m.Next() % uint64(i+1))
		list[i], list[j] = list[j], list[i]
	}
	return list
}

// errno: an error must be this one.
func errno(t *testing.T, what string, got, want api.Errno) {
	t.Helper()
	if got != want {
		t.Errorf("%s: error %d, want %d", what, got, want)
	}
}

// are: elements must stand for these numbers.
func are[P msm.Group[P]](t *testing.T, what string, kind sample.Kind[P], got []P, want ...numbers) {
	t.Helper()
	if len(got) != len(want) {
		t.Fatalf("%s, over %s: %d elements, want %d", what, kind.Name, len(got), len(want))
	}
	for i, p := range got {
		if !kind.Is(p, want[i]) {
			t.Fatalf("%s, over %s: element %d is %v, want %v", what, kind.Name, i, kind.To(p), want[i])
		}
	}
}

// told: scalars must be these numbers, by their least limbs.
func told(t *testing.T, what string, got []scalar.Scalar, want ...*big.Int) {
	t.Helper()
	if len(got) != len(want) {
		t.Fatalf("%s: %d scalars, want %d", what, len(got), len(want))
	}
	for i, k := range got {
		if k != sample.Scalar(want[i]) {
			t.Fatalf("%s: place %d is %v, want %v", what, i, k, sample.Scalar(want[i]))
		}
	}
}

func isBit[P msm.Group[P]](t *testing.T, kind sample.Kind[P], got party.Bit[P], want said) {
	t.Helper()
	are(t, "V, A, S", kind, []P{got.V, got.A, got.S}, want.v, want.a, want.s)
	if got.Place != want.place {
		t.Errorf("a Bit from place %d, want %d", got.Place, want.place)
	}
}

func isPoly[P msm.Group[P]](t *testing.T, kind sample.Kind[P], got party.Poly[P], want said) {
	t.Helper()
	are(t, "T1, T2", kind, []P{got.T1, got.T2}, want.t1, want.t2)
	if got.Place != want.place {
		t.Errorf("a Poly from place %d, want %d", got.Place, want.place)
	}
}

func isShare(t *testing.T, got party.Share, want said) {
	t.Helper()
	told(t, "TauX, Mu, That", []scalar.Scalar{got.TauX, got.Mu, got.That}, want.taux, want.mu, want.that)
	told(t, "L", got.L, want.l...)
	told(t, "R", got.R, want.r...)
	if got.Place != want.place {
		t.Errorf("a Share from place %d, want %d", got.Place, want.place)
	}
}

// noBit, noPoly, noShare: what comes beside an error must be zero.
func noBit[P msm.Group[P]](t *testing.T, what string, q *party.Party[P], b party.Bit[P], got, want api.Errno) {
	t.Helper()
	errno(t, what, got, want)
	var zero P
	if q != nil || b.Place != 0 || !b.V.Same(zero) || !b.A.Same(zero) || !b.S.Same(zero) {
		t.Errorf("%s: something beside an error", what)
	}
}

func noPoly[P msm.Group[P]](t *testing.T, what string, m party.Poly[P], got, want api.Errno) {
	t.Helper()
	errno(t, what, got, want)
	var zero P
	if m.Place != 0 || !m.T1.Same(zero) || !m.T2.Same(zero) {
		t.Errorf("%s: something beside an error", what)
	}
}

func noShare(t *testing.T, what string, s party.Share, got, want api.Errno) {
	t.Helper()
	errno(t, what, got, want)
	var zero scalar.Scalar
	if s.Place != 0 || s.TauX != zero || s.Mu != zero || s.That != zero || len(s.L) != 0 || len(s.R) != 0 {
		t.Errorf("%s: something beside an error", what)
	}
}

// noChallenges: what comes beside an error must be zero.
func noChallenges(t *testing.T, what string, got, want api.Errno, list ...scalar.Scalar) {
	t.Helper()
	errno(t, what, got, want)
	for _, k := range list {
		if k != (scalar.Scalar{}) {
			t.Errorf("%s: a challenge beside an error", what)
		}
	}
}

// noProof: what comes beside an error must be zero.
func noProof[P msm.Group[P]](t *testing.T, what string, v []P, x wire.Proof[P], got, want api.Errno) {
	t.Helper()
	errno(t, what, got, want)
	var zero P
	for _, p := range []P{x.A, x.S, x.T1, x.T2} {
		if !p.Same(zero) {
			t.Errorf("%s: an element beside an error", what)
		}
	}
	for _, k := range []scalar.Scalar{x.TauX, x.Mu, x.That, x.Ea, x.Eb} {
		if k != (scalar.Scalar{}) {
			t.Errorf("%s: a scalar beside an error", what)
		}
	}
	if len(v) != 0 || len(x.L) != 0 || len(x.R) != 0 {
		t.Errorf("%s: lists beside an error", what)
	}
}

// oracle: of the test's own: it answers its scalars one by one, by any limbs, then an error, with a scalar that is none; it keeps what it is told, and writes into it.
type oracle struct {
	list  []scalar.Scalar
	e     api.Errno
	heard []transcript.Said
}

func (o *oracle) Absorb(label string, parts ...[]byte) {
	said := transcript.Said{Label: label}
	for _, part := range parts {
		said.Parts = append(said.Parts, slices.Clone(part))
	}
	o.heard = append(o.heard, said)
	for i, part := range parts {
		whole := part[:cap(part)]
		for j := range whole {
			whole[j] ^= 0xff
		}
		parts[i] = nil
	}
}

func (o *oracle) Draw(label string) (scalar.Scalar, api.Errno) {
	o.heard = append(o.heard, transcript.Said{Draw: true, Label: label})
	if len(o.list) == 0 {
		return scalar.Int(77), o.e
	}
	u := o.list[0]
	o.list = o.list[1:]
	return u, api.OK
}

// answering: an oracle with these challenges, by any limbs, and an error behind them that nobody may see.
func answering(m *sample.Maker, a asked) *oracle {
	return &oracle{list: limbs(m, a.list()), e: api.ErrTx}
}

// heard: all that was said must be this.
func heard(t *testing.T, what string, got, want []transcript.Said) {
	t.Helper()
	same := slices.EqualFunc(got, want, func(a, b transcript.Said) bool {
		return a.Draw == b.Draw && a.Label == b.Label && slices.EqualFunc(a.Parts, b.Parts, slices.Equal[[]byte])
	})
	if !same {
		t.Errorf("%s: was said %v, want %v", what, got, want)
	}
}

// upTo: what was said up to so many Draws.
func upTo(said []transcript.Said, draws int) []transcript.Said {
	for i, s := range said {
		if s.Draw {
			draws--
		}
		if draws == 0 {
			return said[:i+1]
		}
	}
	return said
}

// zeros: 0 by all its limbs.
func zeros() []scalar.Scalar { return sample.Scalars(new(big.Int)) }

// allParams: all that are allowed, up to a size.
func allParams(most int) []api.Params {
	var list []api.Params
	for bits := 1; bits <= api.MaxBits; bits *= 2 {
		for count := 1; count <= api.MaxCount; count *= 2 {
			if bits*count <= most {
				list = append(list, api.Params{Bits: bits, Count: count})
			}
		}
	}
	return list
}

// noParams: that are not allowed.
func noParams() []api.Params {
	list := []api.Params{{}, {Bits: 8, Count: 3}, {Bits: math.MinInt, Count: math.MinInt}, {Bits: math.MaxInt, Count: 1}, {Bits: 1, Count: math.MaxInt}, {Bits: 1 << 62, Count: 2}, {Bits: -8, Count: -1}}
	for _, bits := range []int{-1, 0, 3, 5, 6, 7, 9, 12, 24, 48, 63, 65, 96, 128} {
		list = append(list, api.Params{Bits: bits, Count: 1}, api.Params{Bits: bits, Count: 4})
	}
	for _, count := range []int{-1, 0, 3, 5, 6, 7, 9, 12, 15, 17, 24, 32} {
		list = append(list, api.Params{Bits: 1, Count: count}, api.Params{Bits: 8, Count: count})
	}
	return list
}

// noPlaces: of these Params.
func noPlaces(p api.Params) []int {
	return []int{-1, p.Count, -2, p.Count + 1, p.Size() + p.Count, math.MinInt, math.MaxInt, 1 << 32, -p.Count}
}

// line: a small number's element.
func line(n int64) msm.Line { return msm.Line{K: num(n)} }

// num: a small number.
func num(n int64) scalar.Scalar { return sample.Scalar(big.NewInt(n)) }

func nums(ns ...int64) []scalar.Scalar {
	list := make([]scalar.Scalar, len(ns))
	for i, n := range ns {
		list[i] = num(n)
	}
	return list
}

// lineSet: over Line, no two of them the same.
func lineSet(g, h int) gens.Set[msm.Line] {
	s := gens.Set[msm.Line]{B: line(1), Blind: line(2), Q: line(3)}
	for i := range max(g, 0) {
		s.G = append(s.G, line(int64(10+i)))
	}
	for i := range max(h, 0) {
		s.H = append(s.H, line(int64(5000+i)))
	}
	return s
}
