package ranges_test

// P1307, P1308 and P1311: what verifiers make of any proof, and what the one sum costs.

import (
	"math/big"
	"sync/atomic"
	"testing"

	"veil/api"
	"veil/gens"
	"veil/msm"
	"veil/ranges"
	"veil/sample"
	"veil/scalar"
	"veil/transcript"
	"veil/wire"
)

// verified: all verifiers of a proof must answer as the numbers say, and say what the document lists.
func verified[P msm.Group[P]](t *testing.T, m *sample.Maker, kind sample.Kind[P], w world, x sent, a asked) (one, two bool) {
	t.Helper()
	p, g, v, proof := w.p, setOf(m, kind, w), elements(m, kind, x.v), proofOf(m, kind, x)
	first, last := w.first(x, a), w.last(x, a)
	said := saidOf(kind, p, x, 99)

	o := answering(m, a)
	e1, e2, c, e := ranges.Sides(g, p, v, proof, o)
	errno(t, "Sides over "+kind.Name, e, api.OK)
	are(t, "Sides", kind, []P{e1, e2}, first, last)
	told(t, "Sides: c", []scalar.Scalar{c}, a.c)
	heard(t, "Sides", o.heard, said...)

	want := api.OK
	if !isNeutral(first) {
		want = api.ErrFirst
	} else if !isNeutral(last) {
		want = api.ErrSecond
	}
	o = answering(m, a)
	errno(t, "Rounds over "+kind.Name, ranges.Rounds(g, p, v, proof, o), want)
	heard(t, "Rounds", o.heard, said...)

	both := first.Times(a.c).Plus(last)
	o = answering(m, a)
	terms, e := ranges.Terms(g, p, v, proof, o)
	errno(t, "Terms over "+kind.Name, e, api.OK)
	heard(t, "Terms", o.heard, said...)
	if most := 2*p.Size() + p.Count + 2*p.Rounds() + 7; len(terms) > most {
		t.Errorf("%v: %d terms, more than %d", p, len(terms), most)
	}
	are(t, "the terms' sum", kind, []P{msm.Plain(terms...)}, both)

	o = answering(m, a)
	yes, cost := ranges.Once(g, p, v, proof, o)
	heard(t, "Once", o.heard, said...)
	if yes != isNeutral(both) {
		t.Errorf("Once over %s: %v", kind.Name, yes)
	}
	if _, sum := msm.Sum(terms...); cost != sum || cost.Adds+cost.Doubles > ranges.Bound(p) {
		t.Errorf("Once over %s: costs %v; the sum of the terms costs %v; at most %d", kind.Name, cost, sum, ranges.Bound(p))
	}
	return yes, want == api.OK
}

// proofTurns: a proof, each with something of it changed.
func proofTurns(m *sample.Maker, x sent, by numbers) []sent {
	list := turns(m, x, by)
	one := chance(m)
	for _, turn := range []func(y *sent){
		func(y *sent) { y.ea = plus(y.ea, one) },
		func(y *sent) { y.eb = plus(y.eb, one) },
		func(y *sent) { y.ea, y.eb = y.eb, y.ea },
		func(y *sent) { y.ea, y.eb = negative(y.ea), negative(y.eb) },
		func(y *sent) { y.left, y.right = y.right, y.left },
	} {
		y := x.copied()
		turn(&y)
		list = append(list, y)
	}
	for i := range x.left {
		y, z := x.copied(), x.copied()
		y.left[i] = y.left[i].Plus(by)
		z.right[i] = z.right[i].Plus(by)
		list = append(list, y, z)
	}
	return list
}

func verifiedOver[P msm.Group[P]](t *testing.T, m *sample.Maker, kind sample.Kind[P], list []api.Params) {
	t.Helper()
	for _, p := range list {
		w, a := anyWorld(m, kind, p), anyAsked(m, p)
		x := w.said(anySecret(m, p), a)
		if once, rounds := verified(t, m, kind, w, x, a); !once || !rounds {
			t.Errorf("over %s: a proof is not accepted", kind.Name)
		}
		for _, y := range proofTurns(m, x, kind.Any(m)) {
			verified(t, m, kind, w, y, a)
		}
		for range 3 {
			verified(t, m, kind, w, anySent(m, kind, p), a)
		}
		// The same proof by one other challenge.
		for i := range a.list() {
			other := asked{y: a.y, z: a.z, x: a.x, w: a.w, us: append(numbers{}, a.us...), c: a.c}
			at := []**big.Int{&other.y, &other.z, &other.x, &other.w}
			for t := range other.us {
				at = append(at, &other.us[t])
			}
			*append(at, &other.c)[i] = chance(m)
			verified(t, m, kind, w, x, other)
		}
	}
}

func TestP1307P1308P1311AnyProof(t *testing.T) {
	t.Parallel()
	m := sample.Maker(1307)
	verifiedOver(t, &m, sample.Lines(), allParams(8))
	verifiedOver(t, &m, sample.Frees(), allParams(4))
	verifiedOver(t, &m, sample.Boxes(), allParams(4))
	verifiedOver(t, &m, sample.Lines(), []api.Params{{Bits: 16, Count: 1}, {Bits: 1, Count: 16}, {Bits: 8, Count: 4}})
	verifiedOver(t, &m, sample.Points(), []api.Params{{Bits: 1, Count: 1}, {Bits: 1, Count: 2}})
}

// The greatest size, a proof and one that nobody made.
func TestP1307P1308TheGreatestSize(t *testing.T) {
	m := sample.Maker(13070)
	kind, p := sample.Lines(), api.Params{Bits: 64, Count: 16}
	w, a := anyWorld(&m, kind, p), anyAsked(&m, p)
	if once, rounds := verified(t, &m, kind, w, w.said(anySecret(&m, p), a), a); !once || !rounds {
		t.Error("a proof is not accepted")
	}
	if once, rounds := verified(t, &m, kind, w, anySent(&m, kind, p), a); once || rounds {
		t.Error("what nobody made is accepted")
	}
}

// Where neither side is neutral, there is one c with which the one sum takes it.
func TestP1311TheOneWeight(t *testing.T) {
	m := sample.Maker(1311)
	kind := sample.Lines()
	for _, p := range allParams(16) {
		w, a := anyWorld(&m, kind, p), anyAsked(&m, p)
		x := anySent(&m, kind, p)
		one, two := w.first(x, a).At(0), w.last(x, a).At(0)
		if one.Sign() == 0 || two.Sign() == 0 {
			continue
		}
		a.c = negative(times(two, inverse(one)))
		if once, rounds := verified(t, &m, kind, w, x, a); !once || rounds {
			t.Errorf("%v: Once %v, Rounds %v", p, once, rounds)
		}
		a.c = plus(a.c, big.NewInt(1))
		if a.c.Sign() == 0 {
			continue
		}
		if once, rounds := verified(t, &m, kind, w, x, a); once || rounds {
			t.Errorf("%v: Once %v, Rounds %v", p, once, rounds)
		}
	}
}

// One side alone is neutral: no c helps.
func TestP1307OneSideAlone(t *testing.T) {
	m := sample.Maker(13071)
	kind := sample.Frees()
	for _, p := range []api.Params{{Bits: 1, Count: 1}, {Bits: 4, Count: 1}, {Bits: 2, Count: 2}} {
		w, _ := basis(p)
		a := anyAsked(&m, p)
		x := w.said(anySecret(&m, p), a)
		for _, c := range append(someNumbers(&m, 5), big.NewInt(1)) {
			if c.Sign() == 0 {
				continue
			}
			a.c = c
			y := x.copied()
			y.taux = plus(y.taux, big.NewInt(1))
			if once, rounds := verified(t, &m, kind, w, y, a); once || rounds {
				t.Error("another taux is accepted")
			}
			y = x.copied()
			y.mu = plus(y.mu, big.NewInt(1))
			if once, rounds := verified(t, &m, kind, w, y, a); once || rounds {
				t.Error("another mu is accepted")
			}
			y = x.copied()
			y.ea = plus(y.ea, big.NewInt(1))
			if once, rounds := verified(t, &m, kind, w, y, a); once || rounds {
				t.Error("another a is accepted")
			}
		}
	}
}

// counted: a group that counts what is called in it.
type counted struct{ msm.Line }

// calls: of all elements together.
var calls struct{ adds, doubles, times atomic.Int64 }

func resetCalls() {
	calls.adds.Store(0)
	calls.doubles.Store(0)
	calls.times.Store(0)
}

func (a counted) Add(b counted) counted {
	calls.adds.Add(1)
	return counted{a.Line.Add(b.Line)}
}

func (a counted) Double() counted {
	calls.doubles.Add(1)
	return counted{a.Line.Double()}
}

func (a counted) Times(k scalar.Scalar) counted {
	calls.times.Add(1)
	return counted{a.Line.Times(k)}
}

func (a counted) Neg() counted        { return counted{a.Line.Neg()} }
func (a counted) Same(b counted) bool { return a.Line.Same(b.Line) }

func (a counted) Decode(b api.Bytes32) (counted, api.Errno) {
	l, e := a.Line.Decode(b)
	return counted{l}, e
}

func countedKind() sample.Kind[counted] {
	lines := sample.Lines()
	return sample.Kind[counted]{Name: "a group that counts", Width: 1,
		Of: func(m *sample.Maker, ns numbers) counted { return counted{lines.Of(m, ns)} },
		To: func(a counted) numbers { return lines.To(a.Line) },
	}
}

// costsOf: Once must do what it tells and nothing else, never more than Bound; Terms nothing at all.
func costsOf(t *testing.T, g gens.Set[counted], p api.Params, v []counted, x wire.Proof[counted], o func() transcript.Oracle) {
	t.Helper()
	resetCalls()
	_, cost := ranges.Once(g, p, v, x, o())
	if calls.adds.Load() != int64(cost.Adds) || calls.doubles.Load() != int64(cost.Doubles) || calls.times.Load() != 0 {
		t.Errorf("%v: Once tells %v, but called Add %d, Double %d, Times %d times", p, cost, calls.adds.Load(), calls.doubles.Load(), calls.times.Load())
	}
	if cost.Adds+cost.Doubles > ranges.Bound(p) || cost.Adds == 0 {
		t.Errorf("%v: Once costs %v, at most %d", p, cost, ranges.Bound(p))
	}
	resetCalls()
	if _, e := ranges.Terms(g, p, v, x, o()); e != api.OK {
		t.Errorf("Terms: %d", e)
	}
	if calls.adds.Load() != 0 || calls.doubles.Load() != 0 || calls.times.Load() != 0 {
		t.Errorf("%v: Terms has called group operations", p)
	}
}

func TestP1308CostsOfOnce(t *testing.T) {
	m := sample.Maker(1308)
	kind := countedKind()
	for _, p := range allParams(api.MaxSize) {
		w, a := anyWorld(&m, kind, p), anyAsked(&m, p)
		given := limbs(&m, a.list())
		script := func() transcript.Oracle { return transcript.Given(given...) }
		g := setOf(&m, kind, w)
		v, x, e := ranges.Prove(g, p, openingsOf(&m, anySecret(&m, p)), tapeOf(&m, anySecret(&m, p)), script())
		errno(t, "Prove", e, api.OK)
		costsOf(t, g, p, v, x, script)
		other := anySent(&m, kind, p)
		costsOf(t, g, p, elements(&m, kind, other.v), proofOf(&m, kind, other), script)
	}
}

// A proof whose scalars are all the same, whatever they are.
func TestP1308CostsOfAnyScalars(t *testing.T) {
	m := sample.Maker(13080)
	kind := countedKind()
	half := new(big.Int).Rsh(sample.L(), 1)
	for _, p := range []api.Params{{Bits: 1, Count: 1}, {Bits: 2, Count: 2}, {Bits: 64, Count: 1}, {Bits: 64, Count: 16}} {
		g := setOf(&m, kind, anyWorld(&m, kind, p))
		for _, n := range []*big.Int{big.NewInt(0), big.NewInt(1), big.NewInt(-1), sample.Power2(251), half} {
			x, a := anySent(&m, kind, p), anyAsked(&m, p)
			x.taux, x.mu, x.that, x.ea, x.eb = n, n, n, n, n
			if n.Sign() != 0 {
				a.x, a.c = n, n
			}
			given := limbs(&m, a.list())
			costsOf(t, g, p, elements(&m, kind, x.v), proofOf(&m, kind, x), func() transcript.Oracle { return transcript.Given(given...) })
		}
	}
}

func TestP1308Bound(t *testing.T) {
	for _, p := range allParams(api.MaxSize) {
		rounds := 0
		for n := p.Size(); n > 1; n /= 2 {
			rounds++
		}
		if got, want := ranges.Bound(p), msm.Bound(2*p.Bits*p.Count+p.Count+2*rounds+7); got != want || got == 0 {
			t.Errorf("Bound(%v) = %d, want %d", p, got, want)
		}
	}
	for _, p := range noParams() {
		if got := ranges.Bound(p); got != 0 {
			t.Errorf("Bound(%v) = %d", p, got)
		}
	}
}
