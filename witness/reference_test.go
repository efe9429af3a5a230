package witness_test

// What the tests of this package hold the answers against: the document's words done with numbers of math/big, over generators that stand for known numbers, about systems that are lists of terms. Trees hold numbers in their elements' places.

import (
	"math/big"

	"veil/api"
	"veil/circuit"
	"veil/sample"
	"veil/scalar"
	"veil/tree"
	"veil/witness"
)

type numbers = sample.Numbers

// What trees are made of, with numbers as elements.
type (
	aNode = tree.Node[numbers]
	aKid  = tree.Kid[numbers]
	aW    = tree.W[numbers]
	aX    = witness.X[numbers]
	aZ    = witness.Z[numbers]
	aY    = witness.Y[numbers]
	aTree = witness.Tree[numbers]
)

func plus(x, y *big.Int) *big.Int  { return sample.Mod(new(big.Int).Add(x, y)) }
func minus(x, y *big.Int) *big.Int { return sample.Mod(new(big.Int).Sub(x, y)) }
func times(x, y *big.Int) *big.Int { return sample.Mod(new(big.Int).Mul(x, y)) }
func inverse(x *big.Int) *big.Int  { return new(big.Int).ModInverse(x, sample.L()) }
func negative(x *big.Int) *big.Int { return sample.Mod(new(big.Int).Neg(x)) }

// power: x^e, e from 0 on.
func power(x *big.Int, e int) *big.Int { return new(big.Int).Exp(x, big.NewInt(int64(e)), sample.L()) }

// number: of a scalar.
func number(k scalar.Scalar) *big.Int { return sample.NumberOf(k) }

// inner: <a, b>.
func inner(a, b numbers) *big.Int {
	sum := new(big.Int)
	for i := range a {
		sum = plus(sum, times(a[i], b[i]))
	}
	return sum
}

// summed: <ks, elements>.
func summed(ks numbers, elements []numbers) numbers {
	sum := numbers{}
	for i, k := range ks {
		sum = sum.Plus(elements[i].Times(k))
	}
	return sum
}

// less: a - b.
func less(a, b numbers) numbers { return a.Plus(b.Times(big.NewInt(-1))) }

// nothing: zeros.
func nothing(count int) numbers {
	list := make(numbers, count)
	for i := range list {
		list[i] = new(big.Int)
	}
	return list
}

// stated: what a statement's elements stand for.
type stated struct {
	p, q numbers
	g, h []numbers
}

// image: <a, g> + <b, h> + <a, b> q.
func (s stated) image(a, b numbers) numbers {
	return summed(a, s.g).Plus(summed(b, s.h)).Plus(s.q.Times(inner(a, b)))
}

func lo[T any](list []T) []T { return list[:len(list)/2] }
func hi[T any](list []T) []T { return list[len(list)/2:] }

// blended: x lo + y hi.
func blended(x, y *big.Int, list []numbers) []numbers {
	var out []numbers
	for i := range len(list) / 2 {
		out = append(out, lo(list)[i].Times(x).Plus(hi(list)[i].Times(y)))
	}
	return out
}

// folded: a statement by a round's elements and its challenge.
func (s stated) folded(l, r numbers, u *big.Int) stated {
	v := inverse(u)
	return stated{
		p: l.Times(times(u, u)).Plus(s.p).Plus(r.Times(times(v, v))),
		q: s.q, g: blended(v, u, s.g), h: blended(u, v, s.h),
	}
}

// grown: the node of somebody who knows a and b.
func (s stated) grown(a, b, us numbers) aNode {
	if len(a) == 1 {
		return aNode{A: sample.Scalar(a[0]), B: sample.Scalar(b[0])}
	}
	loA, hiA, loB, hiB := numbers(lo(a)), numbers(hi(a)), numbers(lo(b)), numbers(hi(b))
	n := aNode{
		L: summed(loA, hi(s.g)).Plus(summed(hiB, lo(s.h))).Plus(s.q.Times(inner(loA, hiB))),
		R: summed(hiA, lo(s.g)).Plus(summed(loB, hi(s.h))).Plus(s.q.Times(inner(hiA, loB))),
	}
	for _, u := range us {
		v := inverse(u)
		nextA, nextB := loA.Times(u).Plus(hiA.Times(v)), loB.Times(v).Plus(hiB.Times(u))
		n.Kids = append(n.Kids, aKid{U: sample.Scalar(u), Node: s.folded(n.L, n.R, u).grown(nextA, nextB, us)})
	}
	return n
}

// accepts: is a node accepted for the statement?
func (s stated) accepts(n aNode) bool {
	if len(s.g) == 1 {
		return s.image(numbers{number(n.A)}, numbers{number(n.B)}).Same(s.p)
	}
	for _, kid := range n.Kids {
		if !s.folded(n.L, n.R, number(kid.U)).accepts(kid.Node) {
			return false
		}
	}
	return true
}

// term: a wire and its factor.
type term struct {
	wire circuit.Wire
	k    *big.Int
}

// system: values, gates, and requirements; each wire stands in one of them once at most.
type system struct {
	values, gates int
	requires      [][]term
}

// size: N.
func (s system) size() int {
	n := 1
	for n < s.gates {
		n *= 2
	}
	return n
}

// rounds: log2 N.
func (s system) rounds() int {
	k := 0
	for n := s.size(); n > 1; n /= 2 {
		k++
	}
	return k
}

// leaves: of a tree with the system's arities.
func (s system) leaves() int {
	count := s.size() * (len(s.requires) + 1) * 6 * 2
	for range s.rounds() {
		count *= 4
	}
	return count
}

// weights: wL, wR, wO (N each), wV, C.
type weights struct {
	l, r, o, v numbers
	c          *big.Int
}

// flat: requirement q times z^(q + 1), all together.
func (s system) flat(z *big.Int) weights {
	n := s.size()
	w := weights{l: nothing(n), r: nothing(n), o: nothing(n), v: nothing(s.values), c: new(big.Int)}
	for q, r := range s.requires {
		for _, x := range r {
			k := times(x.k, power(z, q+1))
			switch x.wire.Kind {
			case api.WireLeft:
				w.l[x.wire.I] = plus(w.l[x.wire.I], k)
			case api.WireRight:
				w.r[x.wire.I] = plus(w.r[x.wire.I], k)
			case api.WireOut:
				w.o[x.wire.I] = plus(w.o[x.wire.I], k)
			case api.WireValue:
				w.v[x.wire.I] = minus(w.v[x.wire.I], k)
			case api.WireOne:
				w.c = minus(w.c, k)
			}
		}
	}
	return w
}

// wired: numbers for all wires and values.
type wired struct{ l, r, o, v numbers }

// number: of a wire.
func (a wired) number(w circuit.Wire) *big.Int {
	switch w.Kind {
	case api.WireLeft:
		return a.l[w.I]
	case api.WireRight:
		return a.r[w.I]
	case api.WireOut:
		return a.o[w.I]
	case api.WireValue:
		return a.v[w.I]
	}
	return big.NewInt(1)
}

// eval: a sum.
func (a wired) eval(list []term) *big.Int {
	sum := new(big.Int)
	for _, x := range list {
		sum = plus(sum, times(x.k, a.number(x.wire)))
	}
	return sum
}

// holds: does every gate multiply, and is every requirement met?
func (s system) holds(a wired) bool {
	for i := range s.gates {
		if times(a.l[i], a.r[i]).Cmp(a.o[i]) != 0 {
			return false
		}
	}
	for _, r := range s.requires {
		if a.eval(r).Sign() != 0 {
			return false
		}
	}
	return true
}

// world: a system, and what generators stand for.
type world struct {
	system
	b, blind, q numbers
	g, h        []numbers // at least as many as places
}

// all: the generators in a relation's order.
func (w world) all() []numbers {
	list := []numbers{w.b, w.blind, w.q}
	return append(append(list, w.g[:w.size()]...), w.h[:w.size()]...)
}

func (w world) commitment(v, blind *big.Int) numbers { return w.b.Times(v).Plus(w.blind.Times(blind)) }

// place in a tree behind a y and a z, with what hangs on these.
type behind struct {
	y, z     *big.Int
	f        weights
	up, down numbers   // y^i and y^-i
	h        []numbers // y^-i H_i
	delta    *big.Int
}

func (w world) behind(y, z *big.Int) behind {
	at := behind{y: y, z: z, f: w.flat(z), delta: new(big.Int)}
	v := inverse(y)
	for i := range w.size() {
		at.up, at.down = append(at.up, power(y, i)), append(at.down, power(v, i))
		at.h = append(at.h, w.h[i].Times(at.down[i]))
		at.delta = plus(at.delta, times(at.down[i], times(at.f.r[i], at.f.l[i])))
	}
	return at
}

// right: the right side of the first equation.
func (w world) right(v []numbers, at behind, z aZ, x aX) numbers {
	xn := number(x.X)
	xx := times(xn, xn)
	sum := w.b.Times(times(xx, plus(at.delta, at.f.c)))
	for j := range v {
		sum = sum.Plus(v[j].Times(times(xx, at.f.v[j])))
	}
	for e, t := range map[int]numbers{1: z.T1, 3: z.T3, 4: z.T4, 5: z.T5, 6: z.T6} {
		sum = sum.Plus(t.Times(power(xn, e)))
	}
	return sum
}

// second: P of the second statement.
func (w world) second(t aTree, at behind, x aX) numbers {
	xn := number(x.X)
	p := t.AI.Times(xn).Plus(t.AO.Times(power(xn, 2))).Plus(t.S.Times(power(xn, 3)))
	p = less(p, w.blind.Times(number(x.Mu)))
	for i := range w.size() {
		p = p.Plus(w.g[i].Times(times(xn, times(at.down[i], at.f.r[i]))))
		p = p.Plus(at.h[i].Times(minus(plus(times(xn, at.f.l[i]), at.f.o[i]), at.up[i])))
	}
	return p
}

// statement: that of a conversation's node.
func (w world) statement(t aTree, at behind, x aX, ch *big.Int) stated {
	q := w.q.Times(ch)
	return stated{p: w.second(t, at, x).Plus(q.Times(number(x.That))), q: q, g: w.g[:w.size()], h: at.h}
}

// accepts: is every conversation of a tree with the arities accepted?
func (w world) accepts(v []numbers, t aTree) bool {
	for _, y := range t.Ys {
		for _, z := range y.Zs {
			at := w.behind(number(y.Y), number(z.Z))
			for _, x := range z.Xs {
				if !w.commitment(number(x.That), number(x.TauX)).Same(w.right(v, at, z, x)) {
					return false
				}
				for _, b := range x.Ws {
					if !w.statement(t, at, x, number(b.W)).accepts(b.Node) {
						return false
					}
				}
			}
		}
	}
	return true
}

// asked: the challenges of a tree.
type asked struct{ ys, zs, xs, ws, us numbers }

// taus: by the power of X whose coefficient they cover; those of 0 and 2 are not asked for.
type taus [7]*big.Int

// prover: what somebody answers by who can be asked again and again.
type prover struct {
	aL, aR, aO, sL, sR numbers // one for each place
	bO                 numbers // what AO holds of H: of an honest prover nothing
	alpha, beta, rho   *big.Int
	taus               func() taus
	// taux: in an honest prover's own way; or by what the first equation asks for, of whoever takes logarithms.
	taux func(ts taus, at behind, z aZ, x aX) *big.Int
}

// secret: what an honest prover knows and makes up; its wires one for each gate.
type secret struct {
	wired
	blinds           numbers
	alpha, beta, rho *big.Int
	taus             taus
	sL, sR           numbers // one for each place
}

// commitments: of an honest prover.
func (w world) commitments(k secret) []numbers {
	var list []numbers
	for j, v := range k.v {
		list = append(list, w.commitment(v, k.blinds[j]))
	}
	return list
}

// padded: zeros for the places that have no gate.
func (s system) padded(list numbers) numbers {
	out := nothing(s.size())
	copy(out, list)
	return out
}

// honest: the prover of DOC.md.
func (w world) honest(k secret) prover {
	return prover{
		aL: w.padded(k.l), aR: w.padded(k.r), aO: w.padded(k.o), sL: k.sL, sR: k.sR,
		bO:    nothing(w.size()),
		alpha: k.alpha, beta: k.beta, rho: k.rho,
		taus: func() taus { return k.taus },
		taux: honestTaux(k.blinds),
	}
}

// honestTaux: the sum of tau_k x^k + x x (the sum of wV_j g_j).
func honestTaux(blinds numbers) func(ts taus, at behind, z aZ, x aX) *big.Int {
	return func(ts taus, at behind, z aZ, x aX) *big.Int {
		xn := number(x.X)
		sum := times(times(xn, xn), inner(at.f.v, blinds))
		for _, e := range []int{1, 3, 4, 5, 6} {
			sum = plus(sum, times(ts[e], power(xn, e)))
		}
		return sum
	}
}

// lists: the coefficients of l and r: one list for each power of X.
func (r prover) lists(at behind) (left, right [4]numbers) {
	for i, up := range at.up {
		left[0] = append(left[0], new(big.Int))
		left[1] = append(left[1], plus(r.aL[i], times(at.down[i], at.f.r[i])))
		left[2] = append(left[2], r.aO[i])
		left[3] = append(left[3], r.sL[i])
		right[0] = append(right[0], minus(at.f.o[i], up))
		right[1] = append(right[1], plus(times(up, r.aR[i]), at.f.l[i]))
		right[2] = append(right[2], times(up, r.bO[i]))
		right[3] = append(right[3], times(up, r.sR[i]))
	}
	return left, right
}

// product: t0 to t6.
func product(l, r [4]numbers) numbers {
	t := nothing(7)
	for i := range l {
		for j := range r {
			t[i+j] = plus(t[i+j], inner(l[i], r[j]))
		}
	}
	return t
}

// valueAt: of a polynomial of lists, at x.
func valueAt(list [4]numbers, x *big.Int) numbers {
	sum := nothing(len(list[0]))
	for e, ks := range list {
		sum = sum.Plus(ks.Times(power(x, e)))
	}
	return sum
}

// grown: the tree that a prover says.
func (w world) grown(r prover, c asked) aTree {
	t := aTree{
		AI: w.blind.Times(r.alpha).Plus(summed(r.aL, w.g)).Plus(summed(r.aR, w.h)),
		AO: w.blind.Times(r.beta).Plus(summed(r.aO, w.g)).Plus(summed(r.bO, w.h)),
		S:  w.blind.Times(r.rho).Plus(summed(r.sL, w.g)).Plus(summed(r.sR, w.h)),
	}
	for _, y := range c.ys {
		branch := aY{Y: sample.Scalar(y)}
		for _, z := range c.zs {
			branch.Zs = append(branch.Zs, w.grownZ(t, r, c, w.behind(y, z)))
		}
		t.Ys = append(t.Ys, branch)
	}
	return t
}

func (w world) grownZ(t aTree, r prover, c asked, at behind) aZ {
	left, right := r.lists(at)
	ts, covers := product(left, right), r.taus()
	z := aZ{
		Z:  sample.Scalar(at.z),
		T1: w.commitment(ts[1], covers[1]), T3: w.commitment(ts[3], covers[3]), T4: w.commitment(ts[4], covers[4]),
		T5: w.commitment(ts[5], covers[5]), T6: w.commitment(ts[6], covers[6]),
	}
	for _, xn := range c.xs {
		l, r2 := valueAt(left, xn), valueAt(right, xn)
		mu := plus(times(r.alpha, xn), plus(times(r.beta, power(xn, 2)), times(r.rho, power(xn, 3))))
		x := aX{X: sample.Scalar(xn), That: sample.Scalar(inner(l, r2)), Mu: sample.Scalar(mu)}
		x.TauX = sample.Scalar(r.taux(covers, at, z, x))
		x.Ws = w.grownWs(t, c, at, x, l, r2)
		z.Xs = append(z.Xs, x)
	}
	return z
}

// grownWs: how it goes on for somebody who knows l and r.
func (w world) grownWs(t aTree, c asked, at behind, x aX, l, r numbers) []aW {
	var ws []aW
	for _, ch := range c.ws {
		ws = append(ws, aW{W: sample.Scalar(ch), Node: w.statement(t, at, x, ch).grown(l, r, c.us)})
	}
	return ws
}
