package ranges_test

// What the tests of this package hold the answers against: the document's words done with numbers of math/big, over generators that stand for known numbers.

import (
	"math/big"
	"slices"

	"veil/api"
	"veil/sample"
)

type numbers = sample.Numbers

func plus(x, y *big.Int) *big.Int  { return sample.Mod(new(big.Int).Add(x, y)) }
func minus(x, y *big.Int) *big.Int { return sample.Mod(new(big.Int).Sub(x, y)) }
func times(x, y *big.Int) *big.Int { return sample.Mod(new(big.Int).Mul(x, y)) }
func inverse(x *big.Int) *big.Int  { return new(big.Int).ModInverse(x, sample.L()) }
func negative(x *big.Int) *big.Int { return sample.Mod(new(big.Int).Neg(x)) }

// power: x^e, e from 0 on.
func power(x *big.Int, e int) *big.Int { return new(big.Int).Exp(x, big.NewInt(int64(e)), sample.L()) }

// inner: <a, b>.
func inner(a, b numbers) *big.Int {
	sum := new(big.Int)
	for i := range a {
		sum = plus(sum, times(a[i], b[i]))
	}
	return sum
}

// summed: <ks, elements>.
func summed(ks numbers, elements []numbers) numbers {
	sum := numbers{}
	for i, k := range ks {
		sum = sum.Plus(elements[i].Times(k))
	}
	return sum
}

// less: a - b.
func less(a, b numbers) numbers { return a.Plus(b.Times(big.NewInt(-1))) }

func lo[T any](list []T) []T { return list[:len(list)/2] }
func hi[T any](list []T) []T { return list[len(list)/2:] }

// world: Params, and what generators stand for.
type world struct {
	p           api.Params
	b, blind, q numbers
	g, h        []numbers // at least as many as places
}

// secret: what a prover knows and makes up.
type secret struct {
	vs                     []uint64
	blinds                 numbers
	alpha, rho, tau1, tau2 *big.Int
	sL, sR                 numbers
}

// asked: challenges.
type asked struct {
	y, z, x, w *big.Int
	us         numbers
	c          *big.Int
}

// list: all of them, as they are drawn.
func (a asked) list() numbers {
	return slices.Concat(numbers{a.y, a.z, a.x, a.w}, a.us, numbers{a.c})
}

// sent: what a prover says: the commitments, a view's, and an argument's.
type sent struct {
	v              []numbers
	a, s, t1, t2   numbers
	taux, mu, that *big.Int
	l, r           numbers
	left, right    []numbers // L and R of the rounds
	ea, eb         *big.Int
}

// place: j(i) and k(i).
func (w world) place(i int) (j, k int) { return i / w.p.Bits, i % w.p.Bits }

// raised: z^(2 + j(i)) pow(i).
func (w world) raised(i int, z *big.Int) *big.Int {
	j, k := w.place(i)
	return times(power(z, 2+j), sample.Power2(uint(k)))
}

func (w world) commitment(v *big.Int, blind *big.Int) numbers {
	return w.b.Times(v).Plus(w.blind.Times(blind))
}

// bits: aL and aR.
func (w world) bits(k secret) (aL, aR numbers) {
	for i := range w.p.Size() {
		j, place := w.place(i)
		bit := new(big.Int).SetUint64(k.vs[j] >> place & 1)
		aL, aR = append(aL, bit), append(aR, minus(bit, big.NewInt(1)))
	}
	return aL, aR
}

// lists: the coefficients of l and r: of 1, and of X.
func (w world) lists(k secret, y, z *big.Int) (l, r [2]numbers) {
	aL, aR := w.bits(k)
	for i := range aL {
		yi := power(y, i)
		l[0] = append(l[0], minus(aL[i], z))
		l[1] = append(l[1], k.sL[i])
		r[0] = append(r[0], plus(times(yi, plus(aR[i], z)), w.raised(i, z)))
		r[1] = append(r[1], times(yi, k.sR[i]))
	}
	return l, r
}

// said: all that the prover says to these challenges.
func (w world) said(k secret, a asked) sent {
	aL, aR := w.bits(k)
	l, r := w.lists(k, a.y, a.z)
	t1 := plus(inner(l[0], r[1]), inner(l[1], r[0]))
	t2 := inner(l[1], r[1])
	x := sent{
		a:    w.blind.Times(k.alpha).Plus(summed(aL, w.g)).Plus(summed(aR, w.h)),
		s:    w.blind.Times(k.rho).Plus(summed(k.sL, w.g)).Plus(summed(k.sR, w.h)),
		t1:   w.commitment(t1, k.tau1),
		t2:   w.commitment(t2, k.tau2),
		taux: plus(times(k.tau1, a.x), times(k.tau2, times(a.x, a.x))),
		mu:   plus(k.alpha, times(k.rho, a.x)),
		l:    l[0].Plus(l[1].Times(a.x)),
		r:    r[0].Plus(r[1].Times(a.x)),
	}
	for j, v := range k.vs {
		x.v = append(x.v, w.commitment(new(big.Int).SetUint64(v), k.blinds[j]))
		x.taux = plus(x.taux, times(power(a.z, 2+j), k.blinds[j]))
	}
	x.that = inner(x.l, x.r)
	return w.argued(x, a)
}

// argued: with the argument for the view's l and r.
func (w world) argued(x sent, a asked) sent {
	q, g, h := w.q.Times(a.w), w.g[:w.p.Size()], w.turned(a.y)
	l, r := x.l, x.r
	x.left, x.right = nil, nil
	for _, u := range a.us {
		v := inverse(u)
		left := summed(lo(l), hi(g)).Plus(summed(hi(r), lo(h))).Plus(q.Times(inner(lo(l), hi(r))))
		right := summed(hi(l), lo(g)).Plus(summed(lo(r), hi(h))).Plus(q.Times(inner(hi(l), lo(r))))
		x.left, x.right = append(x.left, left), append(x.right, right)
		l = numbers(lo(l)).Times(u).Plus(numbers(hi(l)).Times(v))
		r = numbers(lo(r)).Times(v).Plus(numbers(hi(r)).Times(u))
		g, h = mixed(v, u, g), mixed(u, v, h)
	}
	x.ea, x.eb = l[0], r[0]
	return x
}

// mixed: x lo + y hi, of elements.
func mixed(x, y *big.Int, list []numbers) []numbers {
	var out []numbers
	for i := range len(list) / 2 {
		out = append(out, lo(list)[i].Times(x).Plus(hi(list)[i].Times(y)))
	}
	return out
}

// turned: h.
func (w world) turned(y *big.Int) []numbers {
	var h []numbers
	for i := range w.p.Size() {
		h = append(h, w.h[i].Times(power(inverse(y), i)))
	}
	return h
}

// delta: Delta.
func (w world) delta(y, z *big.Int) *big.Int {
	powers, values := new(big.Int), new(big.Int)
	for i := range w.p.Size() {
		powers = plus(powers, power(y, i))
	}
	for j := range w.p.Count {
		values = plus(values, power(z, 3+j))
	}
	most := new(big.Int).Sub(sample.Power2(uint(w.p.Bits)), big.NewInt(1))
	return minus(times(minus(z, times(z, z)), powers), times(values, most))
}

// first: E1.
func (w world) first(x sent, a asked) numbers {
	right := w.b.Times(w.delta(a.y, a.z)).Plus(x.t1.Times(a.x)).Plus(x.t2.Times(times(a.x, a.x)))
	for j, v := range x.v {
		right = right.Plus(v.Times(power(a.z, 2+j)))
	}
	return less(w.commitment(x.that, x.taux), right)
}

// image: P of the second statement.
func (w world) image(x sent, a asked) numbers {
	h := w.turned(a.y)
	p := less(x.a.Plus(x.s.Times(a.x)), w.blind.Times(x.mu))
	for i := range w.p.Size() {
		p = less(p, w.g[i].Times(a.z))
		p = p.Plus(h[i].Times(plus(times(a.z, power(a.y, i)), w.raised(i, a.z))))
	}
	return p
}

// second: what is left of the second statement, with l and r.
func (w world) second(x sent, a asked) numbers {
	return less(less(w.image(x, a), summed(x.l, w.g)), summed(x.r, w.turned(a.y)))
}

// last: E2.
func (w world) last(x sent, a asked) numbers {
	q, g, h := w.q.Times(a.w), w.g[:w.p.Size()], w.turned(a.y)
	p := w.image(x, a).Plus(q.Times(x.that))
	for t, u := range a.us {
		v := inverse(u)
		p = x.left[t].Times(times(u, u)).Plus(p).Plus(x.right[t].Times(times(v, v)))
		g, h = mixed(v, u, g), mixed(u, v, h)
	}
	return less(p, g[0].Times(x.ea).Plus(h[0].Times(x.eb)).Plus(q.Times(times(x.ea, x.eb))))
}

// isNeutral: all numbers are 0.
func isNeutral(a numbers) bool { return a.Same(numbers{}) }
