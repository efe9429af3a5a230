package arith_test

// What the tests of this package hold the answers against: the document's words done with numbers of math/big, over generators that stand for known numbers, about systems that are lists of terms.

import (
	"encoding/binary"
	"math/big"
	"slices"

	"veil/api"
	"veil/circuit"
	"veil/sample"
)

type numbers = sample.Numbers

func plus(x, y *big.Int) *big.Int  { return sample.Mod(new(big.Int).Add(x, y)) }
func minus(x, y *big.Int) *big.Int { return sample.Mod(new(big.Int).Sub(x, y)) }
func times(x, y *big.Int) *big.Int { return sample.Mod(new(big.Int).Mul(x, y)) }
func inverse(x *big.Int) *big.Int  { return new(big.Int).ModInverse(x, sample.L()) }
func negative(x *big.Int) *big.Int { return sample.Mod(new(big.Int).Neg(x)) }

// power: x^e, e from 0 on.
func power(x *big.Int, e int) *big.Int { return new(big.Int).Exp(x, big.NewInt(int64(e)), sample.L()) }

// inner: <a, b>.
func inner(a, b numbers) *big.Int {
	sum := new(big.Int)
	for i := range a {
		sum = plus(sum, times(a[i], b[i]))
	}
	return sum
}

// summed: <ks, elements>.
func summed(ks numbers, elements []numbers) numbers {
	sum := numbers{}
	for i, k := range ks {
		sum = sum.Plus(elements[i].Times(k))
	}
	return sum
}

// less: a - b.
func less(a, b numbers) numbers { return a.Plus(b.Times(big.NewInt(-1))) }

// isNeutral: all numbers are 0.
func isNeutral(a numbers) bool { return a.Same(numbers{}) }

func lo[T any](list []T) []T { return list[:len(list)/2] }
func hi[T any](list []T) []T { return list[len(list)/2:] }

// term: a wire and its factor.
type term struct {
	wire circuit.Wire
	k    *big.Int
}

// system: values, gates, and requirements, each in its least form.
type system struct {
	values, gates int
	requires      [][]term
}

// entry: what is required of each value.
func entry(j int) []term {
	return []term{{circuit.Wire{Kind: api.WireLeft, I: j}, big.NewInt(1)}, {circuit.Wire{Kind: api.WireValue, I: j}, sample.Mod(big.NewInt(-1))}}
}

// least: each wire once, in their order, no factor 0.
func least(list []term) []term {
	all := map[circuit.Wire]*big.Int{}
	for _, x := range list {
		if all[x.wire] == nil {
			all[x.wire] = new(big.Int)
		}
		all[x.wire] = plus(all[x.wire], x.k)
	}
	var out []term
	for wire, k := range all {
		if k.Sign() != 0 {
			out = append(out, term{wire, k})
		}
	}
	slices.SortFunc(out, func(a, b term) int {
		if a.wire.Kind != b.wire.Kind {
			return a.wire.Kind - b.wire.Kind
		}
		return a.wire.I - b.wire.I
	})
	return out
}

// bytes: the system's.
func (s system) bytes() []byte {
	number := func(b []byte, n int) []byte { return binary.AppendUvarint(b, uint64(n)) }
	b := number(number(number(nil, s.values), s.gates), len(s.requires))
	for _, r := range s.requires {
		b = number(b, len(r))
		for _, x := range r {
			b = append(number(number(b, x.wire.Kind), x.wire.I), sample.Bytes(x.k, 32)...)
		}
	}
	return b
}

// size: N.
func (s system) size() int {
	n := 1
	for n < s.gates {
		n *= 2
	}
	return n
}

// rounds: log2 N.
func (s system) rounds() int {
	k := 0
	for n := s.size(); n > 1; n /= 2 {
		k++
	}
	return k
}

// weights: wL, wR, wO (N each), wV, C.
type weights struct {
	l, r, o, v numbers
	c          *big.Int
}

func zeroNumbers(count int) numbers {
	list := make(numbers, count)
	for i := range list {
		list[i] = new(big.Int)
	}
	return list
}

// flat: requirement q times z^(q + 1), all together.
func (s system) flat(z *big.Int) weights {
	n := s.size()
	w := weights{l: zeroNumbers(n), r: zeroNumbers(n), o: zeroNumbers(n), v: zeroNumbers(s.values), c: new(big.Int)}
	for q, r := range s.requires {
		for _, x := range r {
			k := times(x.k, power(z, q+1))
			switch x.wire.Kind {
			case api.WireLeft:
				w.l[x.wire.I] = plus(w.l[x.wire.I], k)
			case api.WireRight:
				w.r[x.wire.I] = plus(w.r[x.wire.I], k)
			case api.WireOut:
				w.o[x.wire.I] = plus(w.o[x.wire.I], k)
			case api.WireValue:
				w.v[x.wire.I] = minus(w.v[x.wire.I], k)
			case api.WireOne:
				w.c = minus(w.c, k)
			}
		}
	}
	return w
}

// world: a system, and what generators stand for.
type world struct {
	system
	b, blind, q numbers
	g, h        []numbers // at least as many as places
}

// secret: what a prover knows and makes up; aL, aR and aO one for each gate.
type secret struct {
	aL, aR, aO, v, blinds        numbers
	alpha, beta, rho             *big.Int
	tau1, tau3, tau4, tau5, tau6 *big.Int
	sL, sR                       numbers // one for each place
}

// asked: challenges.
type asked struct {
	y, z, x, w *big.Int
	us         numbers
	c          *big.Int
}

// list: all of them, as they are drawn.
func (a asked) list() numbers {
	return slices.Concat(numbers{a.y, a.z, a.x, a.w}, a.us, numbers{a.c})
}

// sent: what a prover says: the commitments, a view's, and an argument's.
type sent struct {
	v                  []numbers
	ai, ao, s          numbers
	t1, t3, t4, t5, t6 numbers
	taux, mu, that     *big.Int
	l, r               numbers
	left, right        []numbers // L and R of the rounds
	ea, eb             *big.Int
}

func (w world) commitment(v, blind *big.Int) numbers { return w.b.Times(v).Plus(w.blind.Times(blind)) }

// at: the number of gate i; 0 behind the last gate.
func at(list numbers, i int) *big.Int { return list.At(i) }

// coefficients: of l(X) and r(X): one list for each power of X, from 0 to 3.
func (w world) coefficients(k secret, y, z *big.Int) (l, r [4]numbers) {
	f, v := w.flat(z), inverse(y)
	for i := range w.size() {
		up, down := power(y, i), power(v, i)
		l[0] = append(l[0], new(big.Int))
		l[1] = append(l[1], plus(at(k.aL, i), times(down, f.r[i])))
		l[2] = append(l[2], at(k.aO, i))
		l[3] = append(l[3], k.sL[i])
		r[0] = append(r[0], minus(f.o[i], up))
		r[1] = append(r[1], plus(times(up, at(k.aR, i)), f.l[i]))
		r[2] = append(r[2], new(big.Int))
		r[3] = append(r[3], times(up, k.sR[i]))
	}
	return l, r
}

// product: t0 to t6.
func product(l, r [4]numbers) numbers {
	t := zeroNumbers(7)
	for i := range l {
		for j := range r {
			t[i+j] = plus(t[i+j], inner(l[i], r[j]))
		}
	}
	return t
}

// valueAt: of a polynomial of lists, at x.
func valueAt(list [4]numbers, x *big.Int) numbers {
	sum := zeroNumbers(len(list[0]))
	for e, ks := range list {
		sum = sum.Plus(ks.Times(power(x, e)))
	}
	return sum
}

// said: all that the prover says to these challenges; the assignment need not hold.
func (w world) said(k secret, a asked) sent {
	l, r := w.coefficients(k, a.y, a.z)
	t := product(l, r)
	x := sent{
		ai:   w.blind.Times(k.alpha).Plus(summed(k.aL, w.g)).Plus(summed(k.aR, w.h)),
		ao:   w.blind.Times(k.beta).Plus(summed(k.aO, w.g)),
		s:    w.blind.Times(k.rho).Plus(summed(k.sL, w.g)).Plus(summed(k.sR, w.h)),
		t1:   w.commitment(t[1], k.tau1),
		t3:   w.commitment(t[3], k.tau3),
		t4:   w.commitment(t[4], k.tau4),
		t5:   w.commitment(t[5], k.tau5),
		t6:   w.commitment(t[6], k.tau6),
		taux: times(power(a.x, 2), inner(w.flat(a.z).v, k.blinds)),
		mu:   plus(times(k.alpha, a.x), plus(times(k.beta, power(a.x, 2)), times(k.rho, power(a.x, 3)))),
		l:    valueAt(l, a.x),
		r:    valueAt(r, a.x),
	}
	for e, tau := range map[int]*big.Int{1: k.tau1, 3: k.tau3, 4: k.tau4, 5: k.tau5, 6: k.tau6} {
		x.taux = plus(x.taux, times(tau, power(a.x, e)))
	}
	for j, v := range k.v {
		x.v = append(x.v, w.commitment(v, k.blinds[j]))
	}
	x.that = inner(x.l, x.r)
	return w.argued(x, a)
}

// argued: with the argument for the view's l and r.
func (w world) argued(x sent, a asked) sent {
	if len(a.us) != w.rounds() {
		return x // of a view alone
	}
	q, g, h := w.q.Times(a.w), w.g[:w.size()], w.turned(a.y)
	l, r := x.l, x.r
	x.left, x.right = nil, nil
	for _, u := range a.us {
		v := inverse(u)
		left := summed(lo(l), hi(g)).Plus(summed(hi(r), lo(h))).Plus(q.Times(inner(lo(l), hi(r))))
		right := summed(hi(l), lo(g)).Plus(summed(lo(r), hi(h))).Plus(q.Times(inner(hi(l), lo(r))))
		x.left, x.right = append(x.left, left), append(x.right, right)
		l = numbers(lo(l)).Times(u).Plus(numbers(hi(l)).Times(v))
		r = numbers(lo(r)).Times(v).Plus(numbers(hi(r)).Times(u))
		g, h = mixed(v, u, g), mixed(u, v, h)
	}
	x.ea, x.eb = l[0], r[0]
	return x
}

// mixed: x lo + y hi, of elements.
func mixed(x, y *big.Int, list []numbers) []numbers {
	var out []numbers
	for i := range len(list) / 2 {
		out = append(out, lo(list)[i].Times(x).Plus(hi(list)[i].Times(y)))
	}
	return out
}

// turned: h.
func (w world) turned(y *big.Int) []numbers {
	var h []numbers
	v := inverse(y)
	for i := range w.size() {
		h = append(h, w.h[i].Times(power(v, i)))
	}
	return h
}

// delta: Delta.
func (w world) delta(y, z *big.Int) *big.Int {
	f, v, sum := w.flat(z), inverse(y), new(big.Int)
	for i := range w.size() {
		sum = plus(sum, times(power(v, i), times(f.r[i], f.l[i])))
	}
	return sum
}

// first: E1.
func (w world) first(x sent, a asked) numbers {
	f, xx := w.flat(a.z), power(a.x, 2)
	right := w.b.Times(times(xx, plus(w.delta(a.y, a.z), f.c)))
	for j, v := range x.v {
		right = right.Plus(v.Times(times(xx, f.v[j])))
	}
	for e, t := range map[int]numbers{1: x.t1, 3: x.t3, 4: x.t4, 5: x.t5, 6: x.t6} {
		right = right.Plus(t.Times(power(a.x, e)))
	}
	return less(w.commitment(x.that, x.taux), right)
}

// image: P of the second statement.
func (w world) image(x sent, a asked) numbers {
	f, h, v := w.flat(a.z), w.turned(a.y), inverse(a.y)
	p := x.ai.Times(a.x).Plus(x.ao.Times(power(a.x, 2))).Plus(x.s.Times(power(a.x, 3)))
	p = less(p, w.blind.Times(x.mu))
	for i := range w.size() {
		p = p.Plus(w.g[i].Times(times(a.x, times(power(v, i), f.r[i]))))
		p = p.Plus(h[i].Times(minus(plus(times(a.x, f.l[i]), f.o[i]), power(a.y, i))))
	}
	return p
}

// second: what is left of the second statement, with l and r.
func (w world) second(x sent, a asked) numbers {
	return less(less(w.image(x, a), summed(x.l, w.g)), summed(x.r, w.turned(a.y)))
}

// last: E2.
func (w world) last(x sent, a asked) numbers {
	q, g, h := w.q.Times(a.w), w.g[:w.size()], w.turned(a.y)
	p := w.image(x, a).Plus(q.Times(x.that))
	for t, u := range a.us {
		v := inverse(u)
		p = x.left[t].Times(times(u, u)).Plus(p).Plus(x.right[t].Times(times(v, v)))
		g, h = mixed(v, u, g), mixed(u, v, h)
	}
	return less(p, g[0].Times(x.ea).Plus(h[0].Times(x.eb)).Plus(q.Times(times(x.ea, x.eb))))
}

// judged: what the verifier of a view must answer.
func (w world) judged(x sent, a asked) api.Errno {
	return first(
		right(isNeutral(w.first(x, a)), api.ErrFirst),
		right(isNeutral(w.second(x, a)), api.ErrSecond),
		right(inner(x.l, x.r).Cmp(x.that) == 0, api.ErrInner),
	)
}

// right: OK, if it is so; else the error.
func right(so bool, e api.Errno) api.Errno {
	if so {
		return api.OK
	}
	return e
}

// first: the first of these that is an error.
func first(list ...api.Errno) api.Errno {
	for _, e := range list {
		if e != api.OK {
			return e
		}
	}
	return api.OK
}
