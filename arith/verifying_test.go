package arith_test

// P2106, P2107 and P2111: what verifiers make of any proof, and what the one sum costs.

import (
	"math/big"
	"sync/atomic"
	"testing"

	"veil/api"
	"veil/arith"
	"veil/circuit"
	"veil/gens"
	"veil/msm"
	"veil/sample"
	"veil/scalar"
	"veil/transcript"
)

// verified: all verifiers of a proof must answer as the numbers say, and say what the document lists.
func verified[P msm.Group[P]](t *testing.T, m *sample.Maker, kind sample.Kind[P], w world, x sent, a asked) (one, two bool) {
	t.Helper()
	s, g, v, proof := systemOf(m, w.system), setOf(m, kind, w), elements(m, kind, x.v), proofOf(m, kind, x)
	first, last := w.first(x, a), w.last(x, a)
	said := saidOf(kind, w.system, x, 99)

	o := answering(m, a)
	e1, e2, c, e := arith.Sides(g, s, v, proof, o)
	errno(t, "Sides over "+kind.Name, e, api.OK)
	are(t, "Sides", kind, []P{e1, e2}, first, last)
	told(t, "Sides: c", []scalar.Scalar{c}, a.c)
	heard(t, "Sides", o.heard, said...)

	want := api.OK
	if !isNeutral(first) {
		want = api.ErrFirst
	} else if !isNeutral(last) {
		want = api.ErrSecond
	}
	o = answering(m, a)
	errno(t, "Rounds over "+kind.Name, arith.Rounds(g, s, v, proof, o), want)
	heard(t, "Rounds", o.heard, said...)

	o = answering(m, a)
	yes, cost := arith.Once(g, s, v, proof, o)
	heard(t, "Once", o.heard, said...)
	if yes != isNeutral(first.Times(a.c).Plus(last)) {
		t.Errorf("Once over %s: %v", kind.Name, yes)
	}
	if cost.Adds+cost.Doubles > most(s) {
		t.Errorf("Once over %s: costs %v, more than %d", kind.Name, cost, most(s))
	}
	return yes, want == api.OK
}

// proofTurns: a proof, each with something of it changed.
func proofTurns(m *sample.Maker, x sent, by numbers) []sent {
	list := turns(m, x, by)
	one := chance(m)
	with := func(turn func(y *sent)) {
		y := x.copied()
		turn(&y)
		list = append(list, y)
	}
	with(func(y *sent) { y.ea = plus(y.ea, one) })
	with(func(y *sent) { y.eb = plus(y.eb, one) })
	with(func(y *sent) { y.ea, y.eb = y.eb, y.ea })
	with(func(y *sent) { y.ea, y.eb = negative(y.ea), negative(y.eb) })
	with(func(y *sent) { y.left, y.right = y.right, y.left })
	for i := range x.left {
		with(func(y *sent) { y.left[i] = y.left[i].Plus(by) })
		with(func(y *sent) { y.right[i] = y.right[i].Plus(by) })
	}
	return list
}

func verifiedOver[P msm.Group[P]](t *testing.T, m *sample.Maker, kind sample.Kind[P], shapes []shape) {
	t.Helper()
	for _, h := range shapes {
		w, k := anyCase(m, kind, h)
		a := anyAsked(m, w.system)
		x := w.said(k, a)
		if once, rounds := verified(t, m, kind, w, x, a); !once || !rounds {
			t.Errorf("over %s: a proof is not accepted", kind.Name)
		}
		for _, y := range proofTurns(m, x, kind.Any(m)) {
			verified(t, m, kind, w, y, a)
		}
		for range 3 {
			verified(t, m, kind, w, anySent(m, kind, w.system), a)
		}
		// The same proof by one other challenge.
		for i := range a.list() {
			other := asked{y: a.y, z: a.z, x: a.x, w: a.w, us: append(numbers{}, a.us...), c: a.c}
			at := []**big.Int{&other.y, &other.z, &other.x, &other.w}
			for t := range other.us {
				at = append(at, &other.us[t])
			}
			*append(at, &other.c)[i] = chance(m)
			verified(t, m, kind, w, x, other)
		}
	}
}

func TestP2106P2107P2111AnyProof(t *testing.T) {
	t.Parallel()
	m := sample.Maker(2106)
	verifiedOver(t, &m, sample.Lines(), small())
	verifiedOver(t, &m, sample.Frees(), small()[:11])
	verifiedOver(t, &m, sample.Boxes(), small()[:11])
	verifiedOver(t, &m, sample.Points(), []shape{{1, 1, 1}, {1, 2, 1}})
}

// The greatest size, a proof and one that nobody made.
func TestP2106P2107TheGreatestSize(t *testing.T) {
	t.Parallel()
	m := sample.Maker(21060)
	kind := sample.Lines()
	w, k := anyCase(&m, kind, shape{16, 1024, 50})
	a := anyAsked(&m, w.system)
	if once, rounds := verified(t, &m, kind, w, w.said(k, a), a); !once || !rounds {
		t.Error("a proof is not accepted")
	}
	if once, rounds := verified(t, &m, kind, w, anySent(&m, kind, w.system), a); once || rounds {
		t.Error("what nobody made is accepted")
	}
}

// Where neither side is neutral, there is one c with which the one sum takes it.
func TestP2111TheOneWeight(t *testing.T) {
	t.Parallel()
	m := sample.Maker(2111)
	kind := sample.Lines()
	for _, h := range small() {
		w, _ := anyCase(&m, kind, h)
		a := anyAsked(&m, w.system)
		x := anySent(&m, kind, w.system)
		one, two := w.first(x, a).At(0), w.last(x, a).At(0)
		if one.Sign() == 0 || two.Sign() == 0 {
			continue
		}
		a.c = negative(times(two, inverse(one)))
		if once, rounds := verified(t, &m, kind, w, x, a); !once || rounds {
			t.Errorf("%v: Once %v, Rounds %v", h, once, rounds)
		}
		a.c = plus(a.c, big.NewInt(1))
		if a.c.Sign() == 0 {
			continue
		}
		if once, rounds := verified(t, &m, kind, w, x, a); once || rounds {
			t.Errorf("%v: Once %v, Rounds %v", h, once, rounds)
		}
	}
}

// One side alone is neutral: no c helps.
func TestP2106OneSideAlone(t *testing.T) {
	t.Parallel()
	m := sample.Maker(21061)
	kind := sample.Frees()
	for _, h := range few() {
		k := anySecret(&m, h)
		w, _ := basis(anySystem(&m, h, k))
		a := anyAsked(&m, w.system)
		x := w.said(k, a)
		for _, c := range append(someNumbers(&m, 5), big.NewInt(1)) {
			if c.Sign() == 0 {
				continue
			}
			a.c = c
			for i := range 3 {
				y := x.copied()
				at := []**big.Int{&y.taux, &y.mu, &y.ea}[i]
				*at = plus(*at, big.NewInt(1))
				if once, rounds := verified(t, &m, kind, w, y, a); once || rounds {
					t.Errorf("scalar %d is another one, and it is accepted", i)
				}
			}
		}
	}
}

// counted: a group that counts what is called in it.
type counted struct{ msm.Line }

// calls: of all elements together.
var calls struct{ adds, doubles, times atomic.Int64 }

func resetCalls() {
	calls.adds.Store(0)
	calls.doubles.Store(0)
	calls.times.Store(0)
}

func (a counted) Add(b counted) counted {
	calls.adds.Add(1)
	return counted{a.Line.Add(b.Line)}
}

func (a counted) Double() counted {
	calls.doubles.Add(1)
	return counted{a.Line.Double()}
}

func (a counted) Times(k scalar.Scalar) counted {
	calls.times.Add(1)
	return counted{a.Line.Times(k)}
}

func (a counted) Neg() counted        { return counted{a.Line.Neg()} }
func (a counted) Same(b counted) bool { return a.Line.Same(b.Line) }

func (a counted) Decode(b api.Bytes32) (counted, api.Errno) {
	l, e := a.Line.Decode(b)
	return counted{l}, e
}

func countedKind() sample.Kind[counted] {
	lines := sample.Lines()
	return sample.Kind[counted]{Name: "a group that counts", Width: 1,
		Of: func(m *sample.Maker, ns numbers) counted { return counted{lines.Of(m, ns)} },
		To: func(a counted) numbers { return lines.To(a.Line) },
	}
}

// costsOf: Once must do what it tells and nothing else, never more than the bound.
func costsOf(t *testing.T, g gens.Set[counted], s *circuit.System, v []counted, x arith.Proof[counted], o transcript.Oracle) {
	t.Helper()
	resetCalls()
	_, cost := arith.Once(g, s, v, x, o)
	if calls.adds.Load() != int64(cost.Adds) || calls.doubles.Load() != int64(cost.Doubles) || calls.times.Load() != 0 {
		t.Errorf("%d gates: Once tells %v, but called Add %d, Double %d, Times %d times", s.Gates(), cost, calls.adds.Load(), calls.doubles.Load(), calls.times.Load())
	}
	if cost.Adds+cost.Doubles > most(s) || cost.Adds == 0 {
		t.Errorf("%d gates: Once costs %v, at most %d", s.Gates(), cost, most(s))
	}
}

// Not at one time with others: all elements are counted together.
func TestP2107CostsOfOnce(t *testing.T) {
	m := sample.Maker(2107)
	kind := countedKind()
	for _, h := range append(small(), shape{16, 40, 3}, shape{2, 512, 1}, shape{16, 1024, 0}) {
		w, k := anyCase(&m, kind, h)
		g, s := setOf(&m, kind, w), systemOf(&m, w.system)
		given := limbs(&m, anyAsked(&m, w.system).list())
		script := func() transcript.Oracle { return transcript.Given(given...) }
		v, x, e := arith.Prove(g, s, assignmentOf(&m, k), limbs(&m, k.blinds), tapeOf(&m, k), script())
		errno(t, "Prove", e, api.OK)
		costsOf(t, g, s, v, x, script())
		other := anySent(&m, kind, w.system)
		costsOf(t, g, s, elements(&m, kind, other.v), proofOf(&m, kind, other), script())
	}
}

// A proof whose scalars are all the same, whatever they are.
func TestP2107CostsOfAnyScalars(t *testing.T) {
	m := sample.Maker(21070)
	kind := countedKind()
	half := new(big.Int).Rsh(sample.L(), 1)
	for _, h := range []shape{{0, 0, 0}, {1, 1, 1}, {2, 5, 2}, {1, 100, 9}} {
		w, _ := anyCase(&m, kind, h)
		g, s := setOf(&m, kind, w), systemOf(&m, w.system)
		for _, n := range []*big.Int{big.NewInt(0), big.NewInt(1), big.NewInt(-1), sample.Power2(251), half} {
			x, a := anySent(&m, kind, w.system), anyAsked(&m, w.system)
			x.taux, x.mu, x.that, x.ea, x.eb = n, n, n, n, n
			if n.Sign() != 0 {
				a.x, a.c = n, n
			}
			costsOf(t, g, s, elements(&m, kind, x.v), proofOf(&m, kind, x), transcript.Given(limbs(&m, a.list())...))
		}
	}
}
