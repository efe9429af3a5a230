package ranges_test

// P1303 and P1313: which views are accepted.

import (
	"math/big"
	"slices"
	"testing"

	"veil/api"
	"veil/gens"
	"veil/msm"
	"veil/ranges"
	"veil/sample"
)

// judged: what the verifier of a view must answer.
func (w world) judged(x sent, a asked) api.Errno {
	return first(
		right(isNeutral(w.first(x, a)), api.ErrFirst),
		right(isNeutral(w.second(x, a)), api.ErrSecond),
		right(inner(x.l, x.r).Cmp(x.that) == 0, api.ErrInner),
	)
}

func (x sent) copied() sent {
	x.v, x.l, x.r = slices.Clone(x.v), slices.Clone(x.l), slices.Clone(x.r)
	x.left, x.right = slices.Clone(x.left), slices.Clone(x.right)
	return x
}

// turns: a view, each with something of it changed.
func turns(m *sample.Maker, x sent, by numbers) []sent {
	one := m.Number()
	for one.Sign() == 0 {
		one = m.Number()
	}
	var list []sent
	for _, turn := range []func(y *sent){
		func(y *sent) { y.a = y.a.Plus(by) },
		func(y *sent) { y.s = y.s.Plus(by) },
		func(y *sent) { y.t1 = y.t1.Plus(by) },
		func(y *sent) { y.t2 = y.t2.Plus(by) },
		func(y *sent) { y.taux = plus(y.taux, one) },
		func(y *sent) { y.mu = plus(y.mu, one) },
		func(y *sent) { y.that = plus(y.that, one) },
		func(y *sent) { i := int(m.Next() % uint64(len(y.l))); y.l[i] = plus(y.l[i], one) },
		func(y *sent) { i := int(m.Next() % uint64(len(y.r))); y.r[i] = plus(y.r[i], one) },
		func(y *sent) { j := int(m.Next() % uint64(len(y.v))); y.v[j] = y.v[j].Plus(by) },
		func(y *sent) { y.v[0], y.v[len(y.v)-1] = y.v[len(y.v)-1], y.v[0] },
		func(y *sent) { y.l, y.r = y.r, y.l },
		func(y *sent) { y.t1, y.t2 = y.t2, y.t1 },
		func(y *sent) { y.a, y.s = y.s, y.a },
		func(y *sent) { y.taux, y.mu = y.mu, y.taux },
		func(y *sent) { y.that = inner(y.l, y.r); y.l[0] = plus(y.l[0], one) },
	} {
		y := x.copied()
		turn(&y)
		list = append(list, y)
	}
	return list
}

func acceptsOver[P msm.Group[P]](t *testing.T, m *sample.Maker, kind sample.Kind[P], list []api.Params) {
	t.Helper()
	met := map[api.Errno]int{}
	for _, p := range list {
		w, k, a := anyWorld(m, kind, p), anySecret(m, p), anyAsked(m, p)
		g := setOf(m, kind, w)
		judge := func(x sent, a asked) {
			t.Helper()
			want := w.judged(x, a)
			met[want]++
			errno(t, "Accepts over "+kind.Name, ranges.Accepts(g, p, elements(m, kind, x.v), viewOf(m, kind, x, a)), want)
		}
		x := w.said(k, a)
		for _, y := range append(turns(m, x, kind.Any(m)), x, anySent(m, kind, p)) {
			judge(y, a)
		}
		// The same view by other challenges.
		other := anyAsked(m, p)
		judge(x, asked{y: other.y, z: a.z, x: a.x})
		judge(x, asked{y: a.y, z: other.z, x: a.x})
		judge(x, asked{y: a.y, z: a.z, x: other.x})
	}
	for _, e := range []api.Errno{api.OK, api.ErrFirst, api.ErrSecond} {
		if met[e] == 0 {
			t.Errorf("over %s: no view with the answer %d was met", kind.Name, e)
		}
	}
}

func TestP1303Accepts(t *testing.T) {
	t.Parallel()
	m := sample.Maker(1303)
	for range 3 {
		acceptsOver(t, &m, sample.Lines(), allParams(16))
		acceptsOver(t, &m, sample.Frees(), allParams(8))
		acceptsOver(t, &m, sample.Boxes(), allParams(8))
	}
	acceptsOver(t, &m, sample.Lines(), []api.Params{{Bits: 64, Count: 1}, {Bits: 16, Count: 16}})
	acceptsOver(t, &m, sample.Points(), allParams(2))
}

// Both equations hold, but that is not <l, r>: over generators with relations, or none at all, there are such views.
func TestP1303Inner(t *testing.T) {
	m := sample.Maker(13030)
	for _, p := range allParams(16) {
		w, k, a := anyWorld(&m, sample.Lines(), p), anySecret(&m, p), anyAsked(&m, p)
		w.b = numbers{} // so that nothing of that is seen
		x := w.said(k, a)
		errno(t, "Accepts", ranges.Accepts(setOf(&m, sample.Lines(), w), p, elements(&m, sample.Lines(), x.v), viewOf(&m, sample.Lines(), x, a)), api.OK)
		x.that = plus(x.that, big.NewInt(1))
		errno(t, "Accepts", ranges.Accepts(setOf(&m, sample.Lines(), w), p, elements(&m, sample.Lines(), x.v), viewOf(&m, sample.Lines(), x, a)), api.ErrInner)
	}
}

// simulated: a view that is accepted, without any value: with T1 and A by the two equations.
func (w world) simulated(m *sample.Maker, x sent, a asked) sent {
	x.taux, x.mu, x.l, x.r = m.Number(), m.Number(), someNumbers(m, w.p.Size()), someNumbers(m, w.p.Size())
	x.that = inner(x.l, x.r)
	x.t1, x.a = nil, nil
	x.t1 = w.first(x, a).Times(inverse(a.x))
	x.a = w.second(x, a).Times(big.NewInt(-1))
	return x
}

// basis: the world of gens.Basis.
func basis(p api.Params) (world, gens.Set[msm.Free]) {
	g, _ := gens.Basis(p.Size())
	kind := sample.Frees()
	w := world{p: p, b: kind.To(g.B), blind: kind.To(g.Blind), q: kind.To(g.Q)}
	for i := range p.Size() {
		w.g, w.h = append(w.g, kind.To(g.G[i])), append(w.h, kind.To(g.H[i]))
	}
	return w, g
}

// Over Basis no other taux, mu, that, l and r are accepted behind the same beginning.
func TestP1313OneAnswerOverBasis(t *testing.T) {
	t.Parallel()
	m := sample.Maker(1313)
	kind := sample.Frees()
	for _, p := range []api.Params{{Bits: 1, Count: 1}, {Bits: 2, Count: 1}, {Bits: 1, Count: 2}, {Bits: 4, Count: 2}, {Bits: 64, Count: 1}, {Bits: 4, Count: 16}} {
		w, g := basis(p)
		a := anyAsked(&m, p)
		for _, x := range []sent{w.said(anySecret(&m, p), a), w.simulated(&m, anySent(&m, kind, p), a)} {
			v := elements(&m, kind, x.v)
			errno(t, "Accepts", ranges.Accepts(g, p, v, viewOf(&m, kind, x, a)), api.OK)
			for pick := 1; pick < 32; pick++ {
				y := x.copied()
				if pick&1 != 0 {
					y.taux = plus(y.taux, chance(&m))
				}
				if pick&2 != 0 {
					y.mu = plus(y.mu, chance(&m))
				}
				if pick&4 != 0 {
					y.l[0] = plus(y.l[0], chance(&m))
				}
				if pick&8 != 0 {
					y.r[len(y.r)-1] = plus(y.r[len(y.r)-1], chance(&m))
				}
				if pick&16 != 0 {
					y.that = inner(y.l, y.r)
				}
				if pick == 16 {
					continue // that is as it was
				}
				e := ranges.Accepts(g, p, v, viewOf(&m, kind, y, a))
				errno(t, "Accepts of another answer", e, w.judged(y, a))
				if e == api.OK {
					t.Errorf("%v: two answers are accepted", p)
				}
			}
		}
	}
}

// Over Line, where there are relations, others are: any l and r, if taux and mu make up for them.
func TestP1303OtherAnswersOverLine(t *testing.T) {
	m := sample.Maker(13131)
	kind := sample.Lines()
	for _, p := range allParams(16) {
		w, a := anyWorld(&m, kind, p), anyAsked(&m, p)
		w.blind = numbers{chance(&m)}
		down := inverse(w.blind[0])
		x := w.said(anySecret(&m, p), a)
		x.l, x.r = someNumbers(&m, p.Size()), someNumbers(&m, p.Size())
		x.that = inner(x.l, x.r)
		x.taux = minus(x.taux, times(w.first(x, a).At(0), down))
		x.mu = plus(x.mu, times(w.second(x, a).At(0), down))
		errno(t, "Accepts", ranges.Accepts(setOf(&m, kind, w), p, elements(&m, kind, x.v), viewOf(&m, kind, x, a)), api.OK)
	}
}
