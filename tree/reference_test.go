package tree_test

// What the tests of this package hold the answers against: the document's words done with numbers of math/big, over generators that stand for known numbers. Trees hold numbers in their elements' places.

import (
	"math/big"

	"veil/api"
	"veil/sample"
	"veil/scalar"
	"veil/tree"
)

type numbers = sample.Numbers

// What trees are made of, with numbers as elements.
type (
	aNode = tree.Node[numbers]
	aKid  = tree.Kid[numbers]
	aW    = tree.W[numbers]
	aX    = tree.X[numbers]
	aZ    = tree.Z[numbers]
	aY    = tree.Y[numbers]
	aTree = tree.Tree[numbers]
)

func plus(x, y *big.Int) *big.Int  { return sample.Mod(new(big.Int).Add(x, y)) }
func minus(x, y *big.Int) *big.Int { return sample.Mod(new(big.Int).Sub(x, y)) }
func times(x, y *big.Int) *big.Int { return sample.Mod(new(big.Int).Mul(x, y)) }
func inverse(x *big.Int) *big.Int  { return new(big.Int).ModInverse(x, sample.L()) }
func negative(x *big.Int) *big.Int { return sample.Mod(new(big.Int).Neg(x)) }

// power: x^e, e from 0 on.
func power(x *big.Int, e int) *big.Int { return new(big.Int).Exp(x, big.NewInt(int64(e)), sample.L()) }

// number: of a scalar.
func number(k scalar.Scalar) *big.Int { return sample.NumberOf(k) }

// inner: <a, b>.
func inner(a, b numbers) *big.Int {
	sum := new(big.Int)
	for i := range a {
		sum = plus(sum, times(a[i], b[i]))
	}
	return sum
}

// summed: <ks, elements>.
func summed(ks numbers, elements []numbers) numbers {
	sum := numbers{}
	for i, k := range ks {
		sum = sum.Plus(elements[i].Times(k))
	}
	return sum
}

// less: a - b.
func less(a, b numbers) numbers { return a.Plus(b.Times(big.NewInt(-1))) }

// stated: what a statement's elements stand for.
type stated struct {
	p, q numbers
	g, h []numbers
}

// image: <a, g> + <b, h> + <a, b> q.
func (s stated) image(a, b numbers) numbers {
	return summed(a, s.g).Plus(summed(b, s.h)).Plus(s.q.Times(inner(a, b)))
}

func lo[T any](list []T) []T { return list[:len(list)/2] }
func hi[T any](list []T) []T { return list[len(list)/2:] }

// blended: x lo + y hi.
func blended(x, y *big.Int, list []numbers) []numbers {
	var out []numbers
	for i := range len(list) / 2 {
		out = append(out, lo(list)[i].Times(x).Plus(hi(list)[i].Times(y)))
	}
	return out
}

// folded: a statement by a round's elements and its challenge.
func (s stated) folded(l, r numbers, u *big.Int) stated {
	v := inverse(u)
	return stated{
		p: l.Times(times(u, u)).Plus(s.p).Plus(r.Times(times(v, v))),
		q: s.q, g: blended(v, u, s.g), h: blended(u, v, s.h),
	}
}

// grown: the node of somebody who knows a and b.
func (s stated) grown(a, b, us numbers) aNode {
	if len(a) == 1 {
		return aNode{A: sample.Scalar(a[0]), B: sample.Scalar(b[0])}
	}
	loA, hiA, loB, hiB := numbers(lo(a)), numbers(hi(a)), numbers(lo(b)), numbers(hi(b))
	n := aNode{
		L: summed(loA, hi(s.g)).Plus(summed(hiB, lo(s.h))).Plus(s.q.Times(inner(loA, hiB))),
		R: summed(hiA, lo(s.g)).Plus(summed(loB, hi(s.h))).Plus(s.q.Times(inner(hiA, loB))),
	}
	for _, u := range us {
		v := inverse(u)
		nextA, nextB := loA.Times(u).Plus(hiA.Times(v)), loB.Times(v).Plus(hiB.Times(u))
		n.Kids = append(n.Kids, aKid{sample.Scalar(u), s.folded(n.L, n.R, u).grown(nextA, nextB, us)})
	}
	return n
}

// accepts: is a node accepted for the statement?
func (s stated) accepts(n aNode) bool {
	if len(s.g) == 1 {
		return s.image(numbers{number(n.A)}, numbers{number(n.B)}).Same(s.p)
	}
	for _, kid := range n.Kids {
		if !s.folded(n.L, n.R, number(kid.U)).accepts(kid.Node) {
			return false
		}
	}
	return true
}

// world: Params, and what generators stand for.
type world struct {
	p           api.Params
	b, blind, q numbers
	g, h        []numbers // at least as many as places
}

// all: the generators in a relation's order.
func (w world) all() []numbers {
	list := []numbers{w.b, w.blind, w.q}
	return append(append(list, w.g[:w.p.Size()]...), w.h[:w.p.Size()]...)
}

// place: j(i) and k(i).
func (w world) place(i int) (j, k int) { return i / w.p.Bits, i % w.p.Bits }

// raised: z^(2 + j(i)) pow(i).
func (w world) raised(i int, z *big.Int) *big.Int {
	j, k := w.place(i)
	return times(power(z, 2+j), sample.Power2(uint(k)))
}

func (w world) commitment(v, blind *big.Int) numbers {
	return w.b.Times(v).Plus(w.blind.Times(blind))
}

// delta: Delta.
func (w world) delta(y, z *big.Int) *big.Int {
	powers, values := new(big.Int), new(big.Int)
	for i := range w.p.Size() {
		powers = plus(powers, power(y, i))
	}
	for j := range w.p.Count {
		values = plus(values, power(z, 3+j))
	}
	most := new(big.Int).Sub(sample.Power2(uint(w.p.Bits)), big.NewInt(1))
	return minus(times(minus(z, times(z, z)), powers), times(values, most))
}

// right: the right side of the first equation.
func (w world) right(v []numbers, y *big.Int, z aZ, x aX) numbers {
	zn, xn := number(z.Z), number(x.X)
	sum := w.b.Times(w.delta(y, zn)).Plus(z.T1.Times(xn)).Plus(z.T2.Times(times(xn, xn)))
	for j := range v {
		sum = sum.Plus(v[j].Times(power(zn, 2+j)))
	}
	return sum
}

// turned: h.
func (w world) turned(y *big.Int) []numbers {
	var h []numbers
	for i := range w.p.Size() {
		h = append(h, w.h[i].Times(power(inverse(y), i)))
	}
	return h
}

// second: P of the second statement.
func (w world) second(t aTree, y, z *big.Int, x aX) numbers {
	h := w.turned(y)
	p := less(t.A.Plus(t.S.Times(number(x.X))), w.blind.Times(number(x.Mu)))
	for i := range w.p.Size() {
		p = less(p, w.g[i].Times(z))
		p = p.Plus(h[i].Times(plus(times(z, power(y, i)), w.raised(i, z))))
	}
	return p
}

// statement: that of a conversation's node.
func (w world) statement(t aTree, y, z *big.Int, x aX, ch *big.Int) stated {
	q := w.q.Times(ch)
	return stated{p: w.second(t, y, z, x).Plus(q.Times(number(x.That))), q: q, g: w.g[:w.p.Size()], h: w.turned(y)}
}

// accepts: is every conversation of a tree with the arities accepted?
func (w world) accepts(v []numbers, t aTree) bool {
	for _, y := range t.Ys {
		for _, z := range y.Zs {
			for _, x := range z.Xs {
				if !w.commitment(number(x.That), number(x.TauX)).Same(w.right(v, number(y.Y), z, x)) {
					return false
				}
				for _, b := range x.Ws {
					if !w.statement(t, number(y.Y), number(z.Z), x, number(b.W)).accepts(b.Node) {
						return false
					}
				}
			}
		}
	}
	return true
}

// asked: the challenges of a tree.
type asked struct{ ys, zs, xs, ws, us numbers }

// prover: what somebody answers by who can be asked again and again.
type prover struct {
	aL, aR, sL, sR numbers
	alpha, rho     *big.Int
	taus           func(y, z *big.Int) (tau1, tau2 *big.Int)
	// taux: in an honest prover's own way; or by what the first equation asks for, of whoever takes logarithms.
	taux func(tau1, tau2 *big.Int, y *big.Int, z aZ, x aX) *big.Int
}

// secret: an honest prover's openings and tape.
type secret struct {
	vs                     []uint64
	blinds                 numbers
	alpha, rho, tau1, tau2 *big.Int
	sL, sR                 numbers
}

// commitments: of an honest prover.
func (w world) commitments(k secret) []numbers {
	var list []numbers
	for j, v := range k.vs {
		list = append(list, w.commitment(new(big.Int).SetUint64(v), k.blinds[j]))
	}
	return list
}

// honest: the prover of DOC.md.
func (w world) honest(k secret) prover {
	r := prover{sL: k.sL, sR: k.sR, alpha: k.alpha, rho: k.rho}
	for i := range w.p.Size() {
		j, place := w.place(i)
		bit := new(big.Int).SetUint64(k.vs[j] >> place & 1)
		r.aL, r.aR = append(r.aL, bit), append(r.aR, minus(bit, big.NewInt(1)))
	}
	r.taus = func(y, z *big.Int) (*big.Int, *big.Int) { return k.tau1, k.tau2 }
	r.taux = func(tau1, tau2 *big.Int, y *big.Int, z aZ, x aX) *big.Int {
		xn := number(x.X)
		sum := plus(times(tau1, xn), times(tau2, times(xn, xn)))
		for j := range k.blinds {
			sum = plus(sum, times(power(number(z.Z), 2+j), k.blinds[j]))
		}
		return sum
	}
	return r
}

// lists: the coefficients of l and r: of 1, and of X.
func (w world) lists(r prover, y, z *big.Int) (left, right [2]numbers) {
	for i := range r.aL {
		yi := power(y, i)
		left[0] = append(left[0], minus(r.aL[i], z))
		left[1] = append(left[1], r.sL[i])
		right[0] = append(right[0], plus(times(yi, plus(r.aR[i], z)), w.raised(i, z)))
		right[1] = append(right[1], times(yi, r.sR[i]))
	}
	return left, right
}

// grown: the tree that a prover says.
func (w world) grown(r prover, c asked) aTree {
	t := aTree{
		A: w.blind.Times(r.alpha).Plus(summed(r.aL, w.g)).Plus(summed(r.aR, w.h)),
		S: w.blind.Times(r.rho).Plus(summed(r.sL, w.g)).Plus(summed(r.sR, w.h)),
	}
	for _, y := range c.ys {
		branch := aY{Y: sample.Scalar(y)}
		for _, z := range c.zs {
			branch.Zs = append(branch.Zs, w.grownZ(t, r, c, y, z))
		}
		t.Ys = append(t.Ys, branch)
	}
	return t
}

func (w world) grownZ(t aTree, r prover, c asked, y, zn *big.Int) aZ {
	left, right := w.lists(r, y, zn)
	t1 := plus(inner(left[0], right[1]), inner(left[1], right[0]))
	t2 := inner(left[1], right[1])
	tau1, tau2 := r.taus(y, zn)
	z := aZ{Z: sample.Scalar(zn), T1: w.commitment(t1, tau1), T2: w.commitment(t2, tau2)}
	for _, xn := range c.xs {
		l, r2 := left[0].Plus(left[1].Times(xn)), right[0].Plus(right[1].Times(xn))
		x := aX{X: sample.Scalar(xn), That: sample.Scalar(inner(l, r2)), Mu: sample.Scalar(plus(r.alpha, times(r.rho, xn)))}
		x.TauX = sample.Scalar(r.taux(tau1, tau2, y, z, x))
		x.Ws = w.grownWs(t, c, y, zn, x, l, r2)
		z.Xs = append(z.Xs, x)
	}
	return z
}

// grownWs: how it goes on for somebody who knows l and r.
func (w world) grownWs(t aTree, c asked, y, z *big.Int, x aX, l, r numbers) []aW {
	var ws []aW
	for _, ch := range c.ws {
		ws = append(ws, aW{sample.Scalar(ch), w.statement(t, y, z, x, ch).grown(l, r, c.us)})
	}
	return ws
}
