package ideal_test

// P1601 and P1604: the simulator's views, and that they are accepted.

import (
	"math/big"
	"testing"

	"veil/api"
	"veil/gens"
	"veil/group"
	"veil/hash"
	"veil/ideal"
	"veil/msm"
	"veil/ranges"
	"veil/sample"
	"veil/scalar"
)

// simulate: the view of these inputs, by any limbs and looks; it must be the one that the two equations tell, and be accepted.
func simulate[P msm.Group[P]](t *testing.T, m *sample.Maker, kind sample.Kind[P], w world, v []numbers, made made, a asked) sent {
	t.Helper()
	g, elements := setOf(m, kind, w), elements(m, kind, v)
	view, e := ideal.Simulate(g, w.p, elements, m.Limbs(a.y), m.Limbs(a.z), m.Limbs(a.x), madeTape(m, kind, made))
	errno(t, "Simulate", e, api.OK)
	x := w.simulated(v, made, a)
	isView(t, "Simulate", kind, view, x, a)
	errno(t, "Accepts", ranges.Accepts(g, w.p, elements, view), api.OK)
	return x
}

func simulateOver[P msm.Group[P]](t *testing.T, m *sample.Maker, kind sample.Kind[P], list []api.Params) {
	t.Helper()
	for _, p := range list {
		simulate(t, m, kind, anyWorld(m, kind, p), anyList(m, kind, p.Count), anyMade(m, kind, p), anyAsked(m))
	}
}

func TestP1601P1604Views(t *testing.T) {
	t.Parallel()
	m := sample.Maker(1601)
	for range 4 {
		simulateOver(t, &m, sample.Lines(), allParams(64))
		simulateOver(t, &m, sample.Frees(), allParams(16))
		simulateOver(t, &m, sample.Boxes(), allParams(16))
	}
	simulateOver(t, &m, sample.Lines(), allParams(api.MaxSize))
	simulateOver(t, &m, sample.Frees(), []api.Params{{Bits: 64, Count: 1}, {Bits: 4, Count: 16}})
	simulateOver(t, &m, sample.Points(), allParams(8))
	simulateOver(t, &m, sample.Points(), []api.Params{{Bits: 64, Count: 1}})
}

// Challenges 1 and -1, where powers fall together, and tapes of zeros.
func TestP1601EdgesOfChallengesAndTapes(t *testing.T) {
	t.Parallel()
	m := sample.Maker(16010)
	one, far := big.NewInt(1), sample.Mod(big.NewInt(-1))
	for _, p := range allParams(8) {
		for _, a := range []asked{{one, one, one}, {far, one, one}, {one, far, one}, {one, one, far}, {far, far, far}} {
			w, v := anyWorld(&m, sample.Frees(), p), anyList(&m, sample.Frees(), p.Count)
			simulate(t, &m, sample.Frees(), w, v, anyMade(&m, sample.Frees(), p), a)
			nothing := made{l: someZeros(p.Size()), r: someZeros(p.Size()), taux: new(big.Int), mu: new(big.Int)}
			simulate(t, &m, sample.Frees(), w, v, nothing, a)
			simulate(t, &m, sample.Frees(), w, make([]numbers, p.Count), nothing, a)
			simulate(t, &m, sample.Frees(), world{p: p, g: make([]numbers, p.Size()), h: make([]numbers, p.Size())}, v, nothing, a)
		}
	}
}

func someZeros(count int) numbers {
	list := make(numbers, count)
	for i := range list {
		list[i] = new(big.Int)
	}
	return list
}

// Commitments that are no sum of multiples of B and Blind: other generators, or anything where both are neutral.
func TestP1604NobodyCanOpen(t *testing.T) {
	t.Parallel()
	m := sample.Maker(1604)
	for _, p := range []api.Params{{Bits: 1, Count: 1}, {Bits: 4, Count: 1}, {Bits: 2, Count: 4}, {Bits: 1, Count: 16}, {Bits: 64, Count: 1}} {
		w := basis(p)
		for _, other := range []numbers{w.q, w.g[0], w.h[p.Size()-1], w.g[0].Plus(w.b)} {
			v := anyList(&m, sample.Frees(), p.Count)
			v[m.Next()%uint64(p.Count)] = other
			simulate(t, &m, sample.Frees(), w, v, anyMade(&m, sample.Frees(), p), anyAsked(&m))
		}
		none := anyWorld(&m, sample.Lines(), p)
		none.b, none.blind = numbers{}, numbers{}
		v := []numbers{}
		for range p.Count {
			v = append(v, numbers{chance(&m)})
		}
		simulate(t, &m, sample.Lines(), none, v, anyMade(&m, sample.Lines(), p), anyAsked(&m))
	}
}

// somePoint: an element of which nobody knows a logarithm.
func somePoint(m *sample.Maker) group.Point { return group.Map(hash.Sum(m.Bytes(8))) }

// Over the standard generators, with elements of which nobody knows a logarithm.
func TestP1604Points(t *testing.T) {
	t.Parallel()
	m := sample.Maker(16040)
	for _, p := range []api.Params{{Bits: 1, Count: 1}, {Bits: 1, Count: 2}, {Bits: 8, Count: 2}, {Bits: 64, Count: 1}, {Bits: 64, Count: 4}} {
		g, _ := gens.Standard(p.Size() + 1)
		var v []group.Point
		for range p.Count {
			v = append(v, somePoint(&m))
		}
		a := anyAsked(&m)
		tape := ideal.Tape[group.Point]{L: limbs(&m, someNumbers(&m, p.Size())), R: limbs(&m, someNumbers(&m, p.Size())), TauX: m.Limbs(m.Number()), Mu: m.Limbs(m.Number()), S: somePoint(&m), T2: somePoint(&m)}
		w, e := ideal.Simulate(g, p, v, m.Limbs(a.y), m.Limbs(a.z), m.Limbs(a.x), tape)
		errno(t, "Simulate", e, api.OK)
		errno(t, "Accepts", ranges.Accepts(g, p, v, w), api.OK)
		if !w.S.Same(tape.S) || !w.T2.Same(tape.T2) {
			t.Error("S or T2 is not the tape's")
		}
		w.A, w.T1 = w.A.Add(g.B), w.T1.Add(g.G[0])
		errno(t, "Accepts with another T1", ranges.Accepts(g, p, v, w), api.ErrFirst)
		w.T1 = w.T1.Add(g.G[0].Neg())
		errno(t, "Accepts with another A", ranges.Accepts(g, p, v, w), api.ErrSecond)
	}
}

// change: something of a view or its challenges that is changed.
type change struct {
	name string
	do   func(x *sent, a *asked)
}

// changes: each scalar of a view by itself, changed by what is told.
func changes(p api.Params, by *big.Int) []change {
	list := []change{
		{"y", func(x *sent, a *asked) { a.y = plus(a.y, by) }},
		{"z", func(x *sent, a *asked) { a.z = plus(a.z, by) }},
		{"x", func(x *sent, a *asked) { a.x = plus(a.x, by) }},
		{"taux", func(x *sent, a *asked) { x.taux = plus(x.taux, by) }},
		{"mu", func(x *sent, a *asked) { x.mu = plus(x.mu, by) }},
		{"that", func(x *sent, a *asked) { x.that = plus(x.that, by) }},
	}
	for i := range p.Size() {
		list = append(list,
			change{"l", func(x *sent, a *asked) { x.l[i] = plus(x.l[i], by) }},
			change{"r", func(x *sent, a *asked) { x.r[i] = plus(x.r[i], by) }})
	}
	return list
}

// changedOver: with any one of its scalars changed the view is refused. (But with another y where there is one place alone: y^0 is all that is asked of y there.)
func changedOver[P msm.Group[P]](t *testing.T, m *sample.Maker, kind sample.Kind[P], w world) {
	t.Helper()
	v, a := anyList(m, kind, w.p.Count), anyAsked(m)
	x := simulate(t, m, kind, w, v, anyMade(m, kind, w.p), a)
	g, commitments := setOf(m, kind, w), elements(m, kind, v)
	for _, c := range changes(w.p, sample.Mod(sample.Number(m.Bytes(40)))) {
		other, b := x.copied(), a
		c.do(&other, &b)
		e := ranges.Accepts(g, w.p, commitments, viewOf(m, kind, other, b))
		errno(t, "Accepts over "+kind.Name+" with another "+c.name, e, w.judged(v, other, b))
		if e == api.OK && (c.name != "y" || w.p.Size() != 1) {
			t.Errorf("%v over %s: accepted with another %s", w.p, kind.Name, c.name)
		}
	}
}

func TestP1604OneScalarChanged(t *testing.T) {
	t.Parallel()
	m := sample.Maker(16041)
	for range 3 {
		for _, p := range allParams(8) {
			changedOver(t, &m, sample.Lines(), plainWorld(&m, p))
			changedOver(t, &m, sample.Boxes(), plainWorld(&m, p))
			changedOver(t, &m, sample.Frees(), basis(p))
		}
	}
	for _, p := range allParams(2) {
		changedOver(t, &m, sample.Points(), plainWorld(&m, p))
	}
}

// The view that the simulator answers is itself refused, as it stands, with one of its scalars changed.
func TestP1604AnswersChanged(t *testing.T) {
	m := sample.Maker(16042)
	p := api.Params{Bits: 2, Count: 2}
	g, _ := gens.Lines([]byte("changed"), p.Size())
	v := elements(&m, sample.Lines(), []numbers{{chance(&m)}, {chance(&m)}})
	a := anyAsked(&m)
	tape := madeTape(&m, sample.Lines(), anyMade(&m, sample.Lines(), p))
	w, e := ideal.Simulate(g, p, v, m.Limbs(a.y), m.Limbs(a.z), m.Limbs(a.x), tape)
	errno(t, "Simulate", e, api.OK)
	places := []*scalar.Scalar{&w.Y, &w.Z, &w.X, &w.TauX, &w.Mu, &w.That}
	for i := range p.Size() {
		places = append(places, &w.L[i], &w.R[i])
	}
	for i, place := range places {
		was := *place
		*place = was.Add(num(12345))
		if ranges.Accepts(g, p, v, w) == api.OK {
			t.Errorf("accepted with scalar %d changed", i)
		}
		*place = was
		errno(t, "Accepts", ranges.Accepts(g, p, v, w), api.OK)
	}
}
