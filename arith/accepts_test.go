package arith_test

// P2103, P2113 and P2114: which views are accepted.

import (
	"math/big"
	"slices"
	"testing"

	"veil/api"
	"veil/arith"
	"veil/circuit"
	"veil/gens"
	"veil/msm"
	"veil/sample"
)

func (x sent) copied() sent {
	x.v, x.l, x.r = slices.Clone(x.v), slices.Clone(x.l), slices.Clone(x.r)
	x.left, x.right = slices.Clone(x.left), slices.Clone(x.right)
	return x
}

// elementsOf: where the elements of a view are kept.
func (x *sent) elementsOf() []*numbers {
	list := []*numbers{&x.ai, &x.ao, &x.s, &x.t1, &x.t3, &x.t4, &x.t5, &x.t6}
	for j := range x.v {
		list = append(list, &x.v[j])
	}
	return list
}

// scalarsOf: where the scalars of a view are kept.
func (x *sent) scalarsOf() []**big.Int {
	list := []**big.Int{&x.taux, &x.mu, &x.that}
	for i := range x.l {
		list = append(list, &x.l[i], &x.r[i])
	}
	return list
}

// turns: a view, each with one thing of it changed, each two elements or scalars that stand side by side changed for one another, and all as its lists the other way round.
func turns(m *sample.Maker, x sent, by numbers) []sent {
	var list []sent
	with := func(turn func(y *sent)) {
		y := x.copied()
		turn(&y)
		list = append(list, y)
	}
	for i := range x.elementsOf() {
		with(func(y *sent) { at := y.elementsOf()[i]; *at = at.Plus(by) })
		if i > 0 {
			with(func(y *sent) { at := y.elementsOf(); *at[i], *at[i-1] = *at[i-1], *at[i] })
		}
	}
	for i := range x.scalarsOf() {
		with(func(y *sent) { at := y.scalarsOf()[i]; *at = plus(*at, chance(m)) })
		if i > 0 {
			with(func(y *sent) { at := y.scalarsOf(); *at[i], *at[i-1] = *at[i-1], *at[i] })
		}
	}
	with(func(y *sent) { y.l, y.r = y.r, y.l })
	with(func(y *sent) { slices.Reverse(y.l); slices.Reverse(y.r) })
	return list
}

func acceptsOver[P msm.Group[P]](t *testing.T, m *sample.Maker, kind sample.Kind[P], shapes []shape) {
	t.Helper()
	met := map[api.Errno]int{}
	for _, h := range shapes {
		w, k := anyCase(m, kind, h)
		a := anyAsked(m, w.system)
		g, s := setOf(m, kind, w), systemOf(m, w.system)
		judge := func(x sent, a asked) {
			t.Helper()
			want := w.judged(x, a)
			met[want]++
			errno(t, "Accepts over "+kind.Name, arith.Accepts(g, s, elements(m, kind, x.v), viewOf(m, kind, x, a)), want)
		}
		x := w.said(k, a)
		for _, y := range append(turns(m, x, kind.Any(m)), x, anySent(m, kind, w.system)) {
			judge(y, a)
		}
		// The same view by other challenges.
		other := anyAsked(m, w.system)
		judge(x, asked{y: other.y, z: a.z, x: a.x})
		judge(x, asked{y: a.y, z: other.z, x: a.x})
		judge(x, asked{y: a.y, z: a.z, x: other.x})
	}
	for _, e := range []api.Errno{api.OK, api.ErrFirst, api.ErrSecond} {
		if met[e] == 0 {
			t.Errorf("over %s: no view with the answer %d was met", kind.Name, e)
		}
	}
}

func TestP2103Accepts(t *testing.T) {
	t.Parallel()
	m := sample.Maker(2103)
	for range 2 {
		acceptsOver(t, &m, sample.Lines(), small())
		acceptsOver(t, &m, sample.Frees(), small()[:14])
		acceptsOver(t, &m, sample.Boxes(), small()[:14])
	}
	acceptsOver(t, &m, sample.Lines(), []shape{{2, 16, 9}})
	acceptsOver(t, &m, sample.Points(), []shape{{1, 1, 1}, {1, 2, 1}})
}

// Both equations hold, but that is not <l, r>: over generators with relations there are such views.
func TestP2103Inner(t *testing.T) {
	m := sample.Maker(21030)
	kind := sample.Lines()
	for _, h := range small() {
		w, k := anyCase(&m, kind, h)
		w.b = numbers{} // so that nothing of that is seen
		a := anyAsked(&m, w.system)
		x := w.said(k, a)
		for _, want := range []api.Errno{api.OK, api.ErrInner} {
			errno(t, "Accepts", arith.Accepts(setOf(&m, kind, w), systemOf(&m, w.system), elements(&m, kind, x.v), viewOf(&m, kind, x, a)), want)
			x.that = plus(x.that, big.NewInt(1))
		}
	}
}

// basis: the world of gens.Basis.
func basis(s system) (world, gens.Set[msm.Free]) {
	g, _ := gens.Basis(s.size())
	kind := sample.Frees()
	w := world{system: s, b: kind.To(g.B), blind: kind.To(g.Blind), q: kind.To(g.Q)}
	for i := range s.size() {
		w.g, w.h = append(w.g, kind.To(g.G[i])), append(w.h, kind.To(g.H[i]))
	}
	return w, g
}

// simulated: a view that is accepted, without any assignment: with T1 and AI by the two equations.
func (w world) simulated(m *sample.Maker, x sent, a asked) sent {
	x.taux, x.mu, x.l, x.r = m.Number(), m.Number(), someNumbers(m, w.size()), someNumbers(m, w.size())
	x.that = inner(x.l, x.r)
	x.t1, x.ai = nil, nil
	x.t1 = w.first(x, a).Times(inverse(a.x))
	x.ai = w.second(x, a).Times(negative(inverse(a.x)))
	return x
}

// Over Basis no other taux, mu, that, l and r are accepted behind the same beginning.
func TestP2113OneAnswerOverBasis(t *testing.T) {
	t.Parallel()
	m := sample.Maker(2113)
	kind := sample.Frees()
	for _, h := range append(small(), shape{2, 17, 5}) {
		k := anySecret(&m, h)
		w, g := basis(anySystem(&m, h, k))
		s := systemOf(&m, w.system)
		a := anyAsked(&m, w.system)
		for _, x := range []sent{w.said(k, a), w.simulated(&m, anySent(&m, kind, w.system), a)} {
			v := elements(&m, kind, x.v)
			errno(t, "Accepts", arith.Accepts(g, s, v, viewOf(&m, kind, x, a)), api.OK)
			refused := func(y sent) {
				t.Helper()
				e := arith.Accepts(g, s, v, viewOf(&m, kind, y, a))
				errno(t, "Accepts of another answer", e, w.judged(y, a))
				if e == api.OK {
					t.Errorf("%v: two answers are accepted", h)
				}
			}
			// Each scalar alone.
			for i := range x.scalarsOf() {
				y := x.copied()
				at := y.scalarsOf()[i]
				*at = plus(*at, chance(&m))
				refused(y)
			}
			// Several, and that as it must be behind them.
			for pick := 1; pick < 16; pick++ {
				y := x.copied()
				for bit, at := range []**big.Int{&y.taux, &y.mu, &y.l[0], &y.r[len(y.r)-1]} {
					if pick>>bit&1 == 1 {
						*at = plus(*at, chance(&m))
					}
				}
				y.that = inner(y.l, y.r)
				refused(y)
			}
		}
	}
}

// Over Line, where there are relations, others are: any l and r, if taux and mu make up for them.
func TestP2103OtherAnswersOverLine(t *testing.T) {
	m := sample.Maker(21031)
	kind := sample.Lines()
	for _, h := range small() {
		w, k := anyCase(&m, kind, h)
		a := anyAsked(&m, w.system)
		w.blind = numbers{chance(&m)}
		down := inverse(w.blind[0])
		x := w.said(k, a)
		x.l, x.r = someNumbers(&m, w.size()), someNumbers(&m, w.size())
		x.that = inner(x.l, x.r)
		x.taux = minus(x.taux, times(w.first(x, a).At(0), down))
		x.mu = plus(x.mu, times(w.second(x, a).At(0), down))
		errno(t, "Accepts", arith.Accepts(setOf(&m, kind, w), systemOf(&m, w.system), elements(&m, kind, x.v), viewOf(&m, kind, x, a)), api.OK)
	}
}

// fault: how far t2 is from what it must be.
func (w world) fault(k secret, a asked) *big.Int {
	l, r := w.coefficients(k, a.y, a.z)
	f := w.flat(a.z)
	return minus(product(l, r)[2], plus(plus(inner(f.v, k.v), f.c), w.delta(a.y, a.z)))
}

// wrongs: the assignment with a gate that does not multiply, with a requirement that is not met, with both.
func wrongs(m *sample.Maker, k secret) []secret {
	var list []secret
	with := func(turn func(k *secret)) {
		other := k
		other.aL, other.aR, other.aO, other.v = slices.Clone(k.aL), slices.Clone(k.aR), slices.Clone(k.aO), slices.Clone(k.v)
		turn(&other)
		list = append(list, other)
	}
	for i := range k.aL {
		with(func(k *secret) { k.aO[i] = plus(k.aO[i], chance(m)) })
		with(func(k *secret) { k.aL[i] = plus(k.aL[i], chance(m)); k.aO[i] = times(k.aL[i], k.aR[i]) })
		with(func(k *secret) { k.aR[i] = plus(k.aR[i], chance(m)); k.aO[i] = times(k.aL[i], k.aR[i]) })
		with(func(k *secret) { k.aL[i], k.aR[i] = plus(k.aL[i], chance(m)), plus(k.aR[i], chance(m)) })
	}
	for j := range k.v {
		with(func(k *secret) { k.v[j] = plus(k.v[j], chance(m)) })
		with(func(k *secret) { k.v[j] = plus(k.v[j], chance(m)); k.aO[j] = plus(k.aO[j], chance(m)) })
	}
	return list
}

// Over Basis what a prover would make of an assignment that does not hold is accepted just where t2 is what it must be.
func TestP2114NothingElsePasses(t *testing.T) {
	t.Parallel()
	m := sample.Maker(2114)
	kind := sample.Frees()
	met := map[api.Errno]int{}
	for range 2 {
		for _, h := range small() {
			k := anySecret(&m, h)
			w, g := basis(anySystem(&m, h, k))
			s := systemOf(&m, w.system)
			for _, other := range wrongs(&m, k) {
				a := anyAsked(&m, w.system)
				fault := w.fault(other, a)
				x := w.said(other, a)
				want := right(fault.Sign() == 0, api.ErrFirst)
				errno(t, "Accepts", arith.Accepts(g, s, elements(&m, kind, x.v), viewOf(&m, kind, x, a)), want)
				met[s.Holds(assignmentOf(&m, other))]++
				v, view, e := arith.Play(g, s, assignmentOf(&m, other), limbs(&m, other.blinds), tapeOf(&m, other), num(1), num(2), num(3))
				noViewUnless(t, v, view, e, s.Holds(assignmentOf(&m, other)))
			}
		}
	}
	if met[api.ErrGate] == 0 || met[api.ErrRequire] == 0 {
		t.Errorf("met %v", met)
	}
}

// noViewUnless: nothing, but where there is no error.
func noViewUnless[P msm.Group[P]](t *testing.T, v []P, w arith.View[P], got, want api.Errno) {
	t.Helper()
	errno(t, "Play", got, want)
	if want != api.OK {
		noView(t, "Play", v, w, got, want)
	}
}

// Where faults cancel for just these y and z the view is accepted, and with any other y or z it is not.
func TestP2114WhereFaultsCancel(t *testing.T) {
	t.Parallel()
	m := sample.Maker(21140)
	kind := sample.Frees()
	for range 3 {
		for _, h := range small() {
			if h.gates == 0 || h.gates > 4 {
				continue
			}
			// One gate more, which no requirement names: its fault makes up for all others.
			free := h.gates
			k := anySecret(&m, shape{h.values, h.gates + 1, h.more})
			model := anySystem(&m, h, k)
			model.gates++
			w, g := basis(model)
			s := systemOf(&m, w.system)
			for _, other := range wrongs(&m, k) {
				a := anyAsked(&m, w.system)
				other.aO[free] = plus(other.aO[free], times(w.fault(other, a), power(inverse(a.y), free)))
				x := w.said(other, a)
				errno(t, "Accepts where faults cancel", arith.Accepts(g, s, elements(&m, kind, x.v), viewOf(&m, kind, x, a)), api.OK)
				for _, b := range []asked{{y: plus(a.y, big.NewInt(1)), z: a.z, x: a.x}, {y: a.y, z: plus(a.z, big.NewInt(1)), x: a.x}, {y: chance(&m), z: chance(&m), x: chance(&m)}} {
					if b.y.Sign() == 0 || b.z.Sign() == 0 {
						continue
					}
					x := w.said(other, b)
					want := right(w.fault(other, b).Sign() == 0, api.ErrFirst)
					errno(t, "Accepts with other challenges", arith.Accepts(g, s, elements(&m, kind, x.v), viewOf(&m, kind, x, b)), want)
				}
			}
		}
	}
}

// A system that nothing holds for: a requirement of the one wire alone that is not 0.
func TestP2114ARequirementOfTheOneWire(t *testing.T) {
	m := sample.Maker(21141)
	kind := sample.Frees()
	for _, h := range small() {
		k := anySecret(&m, h)
		model := anySystem(&m, h, k)
		for _, n := range []int64{0, 5} {
			other := model
			other.requires = append(slices.Clip(model.requires), least([]term{{circuit.Wire{Kind: api.WireOne}, big.NewInt(n)}}))
			w, g := basis(other)
			s := systemOf(&m, other)
			a := anyAsked(&m, other)
			x := w.said(k, a)
			errno(t, "Accepts", arith.Accepts(g, s, elements(&m, kind, x.v), viewOf(&m, kind, x, a)), right(n == 0, api.ErrFirst))
			v, view, e := arith.Play(g, s, assignmentOf(&m, k), limbs(&m, k.blinds), tapeOf(&m, k), m.Limbs(a.y), m.Limbs(a.z), m.Limbs(a.x))
			noViewUnless(t, v, view, e, right(n == 0, api.ErrRequire))
		}
	}
}
