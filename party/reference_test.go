package party_test

// What the tests of this package hold the answers against: the document's words done with numbers of math/big, over generators that stand for known numbers.

import (
	"math/big"
	"slices"

	"veil/api"
	"veil/sample"
)

type numbers = sample.Numbers

func plus(x, y *big.Int) *big.Int  { return sample.Mod(new(big.Int).Add(x, y)) }
func minus(x, y *big.Int) *big.Int { return sample.Mod(new(big.Int).Sub(x, y)) }
func times(x, y *big.Int) *big.Int { return sample.Mod(new(big.Int).Mul(x, y)) }
func inverse(x *big.Int) *big.Int  { return new(big.Int).ModInverse(x, sample.L()) }

// power: x^e, e from 0 on.
func power(x *big.Int, e int) *big.Int { return new(big.Int).Exp(x, big.NewInt(int64(e)), sample.L()) }

// inner: <a, b>.
func inner(a, b numbers) *big.Int {
	sum := new(big.Int)
	for i := range a {
		sum = plus(sum, times(a[i], b[i]))
	}
	return sum
}

// summed: <ks, elements>.
func summed(ks numbers, elements []numbers) numbers {
	sum := numbers{}
	for i, k := range ks {
		sum = sum.Plus(elements[i].Times(k))
	}
	return sum
}

// less: a - b.
func less(a, b numbers) numbers { return a.Plus(b.Times(big.NewInt(-1))) }

// world: Params, and what generators stand for.
type world struct {
	p           api.Params
	b, blind, q numbers
	g, h        []numbers // at least N of each
}

// secret: what one party knows and makes up.
type secret struct {
	v                             uint64
	blind, alpha, rho, tau1, tau2 *big.Int
	sL, sR                        numbers
}

// asked: challenges.
type asked struct {
	y, z, x, w *big.Int
	us         numbers
	c          *big.Int
}

// list: all of them, as they are drawn.
func (a asked) list() numbers {
	return slices.Concat(numbers{a.y, a.z, a.x, a.w}, a.us, numbers{a.c})
}

// said: the three messages of one place.
type said struct {
	place           int
	v, a, s, t1, t2 numbers
	taux, mu, that  *big.Int
	l, r            numbers
}

func (x said) copied() said {
	x.l, x.r = slices.Clone(x.l), slices.Clone(x.r)
	return x
}

// part: the numbers i of a place.
func (w world) part(j int) []int {
	var list []int
	for i := range w.p.Size() {
		if i/w.p.Bits == j {
			list = append(list, i)
		}
	}
	return list
}

// over: what of the generators stands in a place's part.
func (w world) over(j int) (g, h []numbers) {
	for _, i := range w.part(j) {
		g, h = append(g, w.g[i]), append(h, w.h[i])
	}
	return g, h
}

// raised: z^(2 + j(i)) pow(i).
func (w world) raised(i int, z *big.Int) *big.Int {
	return times(power(z, 2+i/w.p.Bits), sample.Power2(uint(i%w.p.Bits)))
}

func (w world) commitment(v, blind *big.Int) numbers {
	return w.b.Times(v).Plus(w.blind.Times(blind))
}

// vectors: blind Blind + <a, G> + <b, H>, over a place's part.
func (w world) vectors(j int, blind *big.Int, a, b numbers) numbers {
	g, h := w.over(j)
	return w.blind.Times(blind).Plus(summed(a, g)).Plus(summed(b, h))
}

// said: all that the party at a place says to these challenges.
func (w world) said(j int, k secret, a asked) said {
	var aL, aR numbers
	var l, r [2]numbers // of 1, and of X
	for at, i := range w.part(j) {
		bit := new(big.Int).SetUint64(k.v >> at & 1)
		aL, aR = append(aL, bit), append(aR, minus(bit, big.NewInt(1)))
		yi := power(a.y, i)
		l[0] = append(l[0], minus(bit, a.z))
		l[1] = append(l[1], k.sL[at])
		r[0] = append(r[0], plus(times(yi, plus(aR[at], a.z)), w.raised(i, a.z)))
		r[1] = append(r[1], times(yi, k.sR[at]))
	}
	t1 := plus(inner(l[0], r[1]), inner(l[1], r[0]))
	x := said{
		place: j,
		v:     w.commitment(new(big.Int).SetUint64(k.v), k.blind),
		a:     w.vectors(j, k.alpha, aL, aR),
		s:     w.vectors(j, k.rho, k.sL, k.sR),
		t1:    w.commitment(t1, k.tau1),
		t2:    w.commitment(inner(l[1], r[1]), k.tau2),
		mu:    plus(k.alpha, times(k.rho, a.x)),
		l:     l[0].Plus(l[1].Times(a.x)),
		r:     r[0].Plus(r[1].Times(a.x)),
	}
	x.taux = plus(plus(times(k.tau1, a.x), times(k.tau2, times(a.x, a.x))), times(power(a.z, 2+j), k.blind))
	x.that = inner(x.l, x.r)
	return x
}

// first: the left side of a place's first equation less its right side.
func (w world) first(x said, a asked) numbers {
	ys := new(big.Int)
	for _, i := range w.part(x.place) {
		ys = plus(ys, power(a.y, i))
	}
	most := new(big.Int).Sub(sample.Power2(uint(w.p.Bits)), big.NewInt(1))
	d := minus(times(minus(a.z, times(a.z, a.z)), ys), times(power(a.z, 3+x.place), most))
	right := x.v.Times(power(a.z, 2+x.place)).Plus(w.b.Times(d)).Plus(x.t1.Times(a.x)).Plus(x.t2.Times(times(a.x, a.x)))
	return less(w.commitment(x.that, x.taux), right)
}

// second: the left side of a place's second equation less its right side.
func (w world) second(x said, a asked) numbers {
	left := less(x.a.Plus(x.s.Times(a.x)), w.blind.Times(x.mu))
	for at, i := range w.part(x.place) {
		h := w.h[i].Times(power(inverse(a.y), i))
		left = less(left, w.g[i].Times(a.z))
		left = left.Plus(h.Times(plus(times(a.z, power(a.y, i)), w.raised(i, a.z))))
		left = less(left, w.g[i].Times(x.l[at]).Plus(h.Times(x.r[at])))
	}
	return left
}

// judged: what Right must answer of a place's messages.
func (w world) judged(x said, a asked) api.Errno {
	return firstOf(
		right(w.first(x, a).Same(numbers{}), api.ErrFirst),
		right(w.second(x, a).Same(numbers{}), api.ErrSecond),
		right(inner(x.l, x.r).Cmp(x.that) == 0, api.ErrInner),
	)
}

// right: OK, if it is so; else the error.
func right(so bool, e api.Errno) api.Errno {
	if so {
		return api.OK
	}
	return e
}

// firstOf: the first of these that is an error.
func firstOf(list ...api.Errno) api.Errno {
	for _, e := range list {
		if e != api.OK {
			return e
		}
	}
	return api.OK
}
