package party_test

// P1403: which shares are right.

import (
	"math/big"
	"testing"

	"veil/api"
	"veil/gens"
	"veil/msm"
	"veil/party"
	"veil/sample"
	"veil/scalar"
)

// turns: a place's messages, each with something of them changed.
func turns(m *sample.Maker, x said, by numbers) []said {
	one := chance(m)
	var list []said
	for _, turn := range []func(y *said){
		func(y *said) { y.v = y.v.Plus(by) },
		func(y *said) { y.a = y.a.Plus(by) },
		func(y *said) { y.s = y.s.Plus(by) },
		func(y *said) { y.t1 = y.t1.Plus(by) },
		func(y *said) { y.t2 = y.t2.Plus(by) },
		func(y *said) { y.taux = plus(y.taux, one) },
		func(y *said) { y.mu = plus(y.mu, one) },
		func(y *said) { y.that = plus(y.that, one) },
		func(y *said) { i := int(m.Next() % uint64(len(y.l))); y.l[i] = plus(y.l[i], one) },
		func(y *said) { i := int(m.Next() % uint64(len(y.r))); y.r[i] = plus(y.r[i], one) },
		func(y *said) { y.l, y.r = y.r, y.l },
		func(y *said) { y.t1, y.t2 = y.t2, y.t1 },
		func(y *said) { y.a, y.s = y.s, y.a },
		func(y *said) { y.taux, y.mu = y.mu, y.taux },
		func(y *said) { y.l[0] = plus(y.l[0], one); y.that = inner(y.l, y.r) },
	} {
		y := x.copied()
		turn(&y)
		list = append(list, y)
	}
	return list
}

// anySaid: what nobody made.
func anySaid[P msm.Group[P]](m *sample.Maker, kind sample.Kind[P], p api.Params, place int) said {
	return said{
		place: place, v: kind.Any(m), a: kind.Any(m), s: kind.Any(m), t1: kind.Any(m), t2: kind.Any(m),
		taux: m.Number(), mu: m.Number(), that: m.Number(), l: someNumbers(m, p.Bits), r: someNumbers(m, p.Bits),
	}
}

func rightOver[P msm.Group[P]](t *testing.T, m *sample.Maker, kind sample.Kind[P], list []api.Params) {
	t.Helper()
	met := map[api.Errno]int{}
	for _, p := range list {
		w, ks, a := anyWorld(m, kind, p), anySecrets(m, p), anyAsked(m, p)
		g := setOf(m, kind, w)
		judge := func(x said, a asked) {
			t.Helper()
			want := w.judged(x, a)
			met[want]++
			e := party.Right(g, p, bitOf(m, kind, x), polyOf(m, kind, x), shareOf(m, x), m.Limbs(a.y), m.Limbs(a.z), m.Limbs(a.x))
			errno(t, "Right over "+kind.Name, e, want)
		}
		for j, k := range ks {
			x := w.said(j, k, a)
			for _, y := range append(turns(m, x, kind.Any(m)), x, anySaid(m, kind, p, j)) {
				judge(y, a)
			}
			// The same messages at another place, and by other challenges.
			y := x
			y.place = int(m.Next() % uint64(p.Count))
			judge(y, a)
			other := anyAsked(m, p)
			judge(x, asked{y: other.y, z: a.z, x: a.x})
			judge(x, asked{y: a.y, z: other.z, x: a.x})
			judge(x, asked{y: a.y, z: a.z, x: other.x})
		}
	}
	for _, e := range []api.Errno{api.OK, api.ErrFirst, api.ErrSecond} {
		if met[e] == 0 {
			t.Errorf("over %s: nothing with the answer %d was met", kind.Name, e)
		}
	}
}

func TestP1403Right(t *testing.T) {
	t.Parallel()
	m := sample.Maker(1403)
	for range 2 {
		rightOver(t, &m, sample.Lines(), allParams(16))
		rightOver(t, &m, sample.Frees(), allParams(8))
		rightOver(t, &m, sample.Boxes(), allParams(8))
	}
	rightOver(t, &m, sample.Lines(), []api.Params{{Bits: 64, Count: 1}, {Bits: 32, Count: 4}})
	rightOver(t, &m, sample.Points(), allParams(2))
}

// Both equations hold, but that is not <l, r>: so where nothing is seen of B.
func TestP1403Inner(t *testing.T) {
	m := sample.Maker(14030)
	kind := sample.Lines()
	for _, p := range allParams(16) {
		w, ks, a := anyWorld(&m, kind, p), anySecrets(&m, p), anyAsked(&m, p)
		w.b = numbers{}
		g := setOf(&m, kind, w)
		for j, k := range ks {
			x := w.said(j, k, a)
			judge := func(want api.Errno) {
				t.Helper()
				errno(t, "Right", party.Right(g, p, bitOf(&m, kind, x), polyOf(&m, kind, x), shareOf(&m, x), m.Limbs(a.y), m.Limbs(a.z), m.Limbs(a.x)), want)
			}
			judge(api.OK)
			x.that = plus(x.that, big.NewInt(1))
			judge(api.ErrInner)
		}
	}
}

// Of several equations that fail the first is told.
func TestP1403OrderOfTheEquations(t *testing.T) {
	m := sample.Maker(14031)
	kind, p := sample.Lines(), api.Params{Bits: 2, Count: 4}
	w, ks, a := anyWorld(&m, kind, p), anySecrets(&m, p), anyAsked(&m, p)
	w.b, w.blind = numbers{}, numbers{chance(&m)}
	for j, k := range ks {
		for pick := range 8 {
			x := w.said(j, k, a)
			if pick&1 != 0 {
				x.taux = plus(x.taux, big.NewInt(1))
			}
			if pick&2 != 0 {
				x.mu = plus(x.mu, big.NewInt(1))
			}
			if pick&4 != 0 {
				x.that = plus(x.that, big.NewInt(1))
			}
			want := firstOf(right(pick&1 == 0, api.ErrFirst), right(pick&2 == 0, api.ErrSecond), right(pick&4 == 0, api.ErrInner))
			errno(t, "Right", party.Right(setOf(&m, kind, w), p, bitOf(&m, kind, x), polyOf(&m, kind, x), shareOf(&m, x), m.Limbs(a.y), m.Limbs(a.z), m.Limbs(a.x)), want)
		}
	}
}

// judgement: what is handed to Right.
type judgement struct {
	g       gens.Set[msm.Line]
	p       api.Params
	b       party.Bit[msm.Line]
	t       party.Poly[msm.Line]
	s       party.Share
	y, z, x scalar.Scalar
}

func (c judgement) answer() api.Errno { return party.Right(c.g, c.p, c.b, c.t, c.s, c.y, c.z, c.x) }

// rightOne: a share that is right, at a place.
func rightOne(t *testing.T, p api.Params, place int) judgement {
	t.Helper()
	m := sample.Maker(place)
	k := anySecrets(&m, p)[place]
	c := judgement{g: lineSet(p.Size(), p.Size()), p: p, y: num(3), z: num(5), x: num(7)}
	q, b, e := party.Join(c.g, p, place, openingOf(&m, k), tapeOf(&m, k))
	errno(t, "Join", e, api.OK)
	c.b = b
	c.t, e = q.Poly(c.y, c.z)
	errno(t, "Poly", e, api.OK)
	c.s, e = q.Share(c.x)
	errno(t, "Share", e, api.OK)
	errno(t, "Right", c.answer(), api.OK)
	return c
}

// faults: of each kind, in the order in which they are told.
func faults(p api.Params) [][]func(c *judgement) {
	places := []func(c *judgement){
		func(c *judgement) { c.t.Place++ },
		func(c *judgement) { c.s.Place-- },
		func(c *judgement) { c.b.Place = (c.b.Place + 1) % c.p.Count },
		func(c *judgement) { c.t.Place, c.s.Place = -1, -1 },
	}
	for _, no := range noPlaces(p) {
		places = append(places, func(c *judgement) { c.b.Place, c.t.Place, c.s.Place = no, no, no })
	}
	return [][]func(c *judgement){
		{func(c *judgement) { c.p.Bits = 3 }, func(c *judgement) { c.p.Count = 32 }, func(c *judgement) { c.p = api.Params{} }},
		places,
		{
			func(c *judgement) { c.g.G = c.g.G[1:] },
			func(c *judgement) { c.g.H = nil },
			func(c *judgement) { c.s.L = c.s.L[1:] },
			func(c *judgement) { c.s.R = c.s.R[1:] },
			func(c *judgement) { c.s.L = append(c.s.L[:len(c.s.L):len(c.s.L)], num(0)) },
			func(c *judgement) { c.s.R = append(c.s.R[:len(c.s.R):len(c.s.R)], num(0)) },
			func(c *judgement) { c.s.L, c.s.R = nil, nil },
		},
		{func(c *judgement) { c.y = num(0) }, func(c *judgement) { c.z = num(0) }, func(c *judgement) { c.x = zeros()[1] }},
		{func(c *judgement) { c.s.TauX = c.s.TauX.Add(num(1)) }},
		{func(c *judgement) { c.s.Mu = c.s.Mu.Add(num(1)) }},
	}
}

// Wrong inputs, alone and any two together: which error comes first.
func TestP1403OrderOfErrors(t *testing.T) {
	codes := []api.Errno{api.ErrParams, api.ErrPlace, api.ErrLength, api.ErrZero, api.ErrFirst, api.ErrSecond}
	for _, p := range []api.Params{{Bits: 1, Count: 2}, {Bits: 4, Count: 4}} {
		all := faults(p)
		for place := range p.Count {
			good := rightOne(t, p, place)
			for i, some := range all {
				for _, fault := range some {
					c := good
					fault(&c)
					errno(t, "Right", c.answer(), codes[i])
					for _, more := range all[i+1:] {
						for _, other := range more {
							// What is told later comes first, for it may lean on what is sound.
							c := good
							other(&c)
							fault(&c)
							errno(t, "Right with two faults", c.answer(), codes[i])
						}
					}
				}
			}
		}
	}
}

// Generators from N on are not looked at; a challenge is 0 by any of its limbs.
func TestP1403Edges(t *testing.T) {
	for _, p := range []api.Params{{Bits: 1, Count: 1}, {Bits: 2, Count: 2}, {Bits: 64, Count: 16}} {
		good := rightOne(t, p, p.Count-1)
		more := good
		more.g = lineSet(p.Size()+1, p.Size()+7)
		errno(t, "Right with more generators", more.answer(), api.OK)
		for _, zero := range zeros() {
			for pick := 1; pick < 8; pick++ {
				c := good
				for i, k := range []*scalar.Scalar{&c.y, &c.z, &c.x} {
					if pick>>i&1 == 1 {
						*k = zero
					}
				}
				errno(t, "Right with a 0", c.answer(), api.ErrZero)
			}
		}
	}
}
