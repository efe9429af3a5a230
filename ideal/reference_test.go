package ideal_test

// What the tests of this package hold the answers against: the document's words done with numbers of math/big, over generators that stand for known numbers.

import (
	"math/big"
	"slices"

	"veil/api"
	"veil/sample"
)

type numbers = sample.Numbers

func plus(x, y *big.Int) *big.Int  { return sample.Mod(new(big.Int).Add(x, y)) }
func minus(x, y *big.Int) *big.Int { return sample.Mod(new(big.Int).Sub(x, y)) }
func times(x, y *big.Int) *big.Int { return sample.Mod(new(big.Int).Mul(x, y)) }
func inverse(x *big.Int) *big.Int  { return new(big.Int).ModInverse(x, sample.L()) }

// power: x^e, e from 0 on.
func power(x *big.Int, e int) *big.Int { return new(big.Int).Exp(x, big.NewInt(int64(e)), sample.L()) }

// inner: <a, b>.
func inner(a, b numbers) *big.Int {
	sum := new(big.Int)
	for i := range a {
		sum = plus(sum, times(a[i], b[i]))
	}
	return sum
}

// summed: <ks, elements>.
func summed(ks numbers, elements []numbers) numbers {
	sum := numbers{}
	for i, k := range ks {
		sum = sum.Plus(elements[i].Times(k))
	}
	return sum
}

// less: a - b.
func less(a, b numbers) numbers { return a.Plus(b.Times(big.NewInt(-1))) }

// isNeutral: all numbers are 0.
func isNeutral(a numbers) bool { return a.Same(numbers{}) }

// world: Params, and what generators stand for.
type world struct {
	p           api.Params
	b, blind, q numbers
	g, h        []numbers // at least as many as places
}

// secret: what a prover knows and makes up.
type secret struct {
	vs                     []uint64
	blinds                 numbers
	alpha, rho, tau1, tau2 *big.Int
	sL, sR                 numbers
}

// asked: challenges.
type asked struct{ y, z, x *big.Int }

// made: what a simulator makes up.
type made struct {
	l, r     numbers
	taux, mu *big.Int
	s, t2    numbers
}

// sent: a view.
type sent struct {
	a, s, t1, t2   numbers
	taux, mu, that *big.Int
	l, r           numbers
}

func (x sent) copied() sent {
	x.l, x.r = slices.Clone(x.l), slices.Clone(x.r)
	return x
}

// place: j(i) and k(i).
func (w world) place(i int) (j, k int) { return i / w.p.Bits, i % w.p.Bits }

// raised: z^(2 + j(i)) pow(i).
func (w world) raised(i int, z *big.Int) *big.Int {
	j, k := w.place(i)
	return times(power(z, 2+j), sample.Power2(uint(k)))
}

func (w world) commitment(v, blind *big.Int) numbers {
	return w.b.Times(v).Plus(w.blind.Times(blind))
}

// commitments: of a prover's openings.
func (w world) commitments(k secret) []numbers {
	var list []numbers
	for j, v := range k.vs {
		list = append(list, w.commitment(new(big.Int).SetUint64(v), k.blinds[j]))
	}
	return list
}

// bits: aL and aR.
func (w world) bits(k secret) (aL, aR numbers) {
	for i := range w.p.Size() {
		j, place := w.place(i)
		bit := new(big.Int).SetUint64(k.vs[j] >> place & 1)
		aL, aR = append(aL, bit), append(aR, minus(bit, big.NewInt(1)))
	}
	return aL, aR
}

// lists: the coefficients of l and r: of 1, and of X.
func (w world) lists(k secret, y, z *big.Int) (l, r [2]numbers) {
	aL, aR := w.bits(k)
	for i := range aL {
		yi := power(y, i)
		l[0] = append(l[0], minus(aL[i], z))
		l[1] = append(l[1], k.sL[i])
		r[0] = append(r[0], plus(times(yi, plus(aR[i], z)), w.raised(i, z)))
		r[1] = append(r[1], times(yi, k.sR[i]))
	}
	return l, r
}

// said: all that the prover says to these challenges.
func (w world) said(k secret, a asked) sent {
	aL, aR := w.bits(k)
	l, r := w.lists(k, a.y, a.z)
	t1 := plus(inner(l[0], r[1]), inner(l[1], r[0]))
	t2 := inner(l[1], r[1])
	x := sent{
		a:    w.blind.Times(k.alpha).Plus(summed(aL, w.g)).Plus(summed(aR, w.h)),
		s:    w.blind.Times(k.rho).Plus(summed(k.sL, w.g)).Plus(summed(k.sR, w.h)),
		t1:   w.commitment(t1, k.tau1),
		t2:   w.commitment(t2, k.tau2),
		taux: plus(times(k.tau1, a.x), times(k.tau2, times(a.x, a.x))),
		mu:   plus(k.alpha, times(k.rho, a.x)),
		l:    l[0].Plus(l[1].Times(a.x)),
		r:    r[0].Plus(r[1].Times(a.x)),
	}
	for j := range k.vs {
		x.taux = plus(x.taux, times(power(a.z, 2+j), k.blinds[j]))
	}
	x.that = inner(x.l, x.r)
	return x
}

// matched: the simulator's tape of what a prover says.
func matched(x sent) made {
	return made{l: x.l, r: x.r, taux: x.taux, mu: x.mu, s: x.s, t2: x.t2}
}

// turned: h.
func (w world) turned(y *big.Int) []numbers {
	var h []numbers
	for i := range w.p.Size() {
		h = append(h, w.h[i].Times(power(inverse(y), i)))
	}
	return h
}

// delta: Delta.
func (w world) delta(y, z *big.Int) *big.Int {
	powers, values := new(big.Int), new(big.Int)
	for i := range w.p.Size() {
		powers = plus(powers, power(y, i))
	}
	for j := range w.p.Count {
		values = plus(values, power(z, 3+j))
	}
	most := new(big.Int).Sub(sample.Power2(uint(w.p.Bits)), big.NewInt(1))
	return minus(times(minus(z, times(z, z)), powers), times(values, most))
}

// first: E1.
func (w world) first(v []numbers, x sent, a asked) numbers {
	right := w.b.Times(w.delta(a.y, a.z)).Plus(x.t1.Times(a.x)).Plus(x.t2.Times(times(a.x, a.x)))
	for j := range v {
		right = right.Plus(v[j].Times(power(a.z, 2+j)))
	}
	return less(w.commitment(x.that, x.taux), right)
}

// second: what is left of the second statement, with l and r.
func (w world) second(x sent, a asked) numbers {
	h := w.turned(a.y)
	p := less(x.a.Plus(x.s.Times(a.x)), w.blind.Times(x.mu))
	for i := range w.p.Size() {
		p = less(p, w.g[i].Times(a.z))
		p = p.Plus(h[i].Times(plus(times(a.z, power(a.y, i)), w.raised(i, a.z))))
	}
	return less(less(p, summed(x.l, w.g)), summed(x.r, h))
}

// simulated: the view that the simulator must say: T1 and A are what the two equations, asked with neutral ones in their place, are wrong by.
func (w world) simulated(v []numbers, t made, a asked) sent {
	x := sent{s: t.s, t2: t.t2, taux: t.taux, mu: t.mu, that: inner(t.l, t.r), l: t.l, r: t.r}
	x.t1 = w.first(v, x, a).Times(inverse(a.x))
	x.a = w.second(x, a).Times(big.NewInt(-1))
	return x
}

// judged: what the verifier of a view must answer.
func (w world) judged(v []numbers, x sent, a asked) api.Errno {
	switch {
	case a.y.Sign() == 0 || a.z.Sign() == 0 || a.x.Sign() == 0:
		return api.ErrZero
	case !isNeutral(w.first(v, x, a)):
		return api.ErrFirst
	case !isNeutral(w.second(x, a)):
		return api.ErrSecond
	case inner(x.l, x.r).Cmp(x.that) != 0:
		return api.ErrInner
	}
	return api.OK
}
