package ideal_test

// Inputs that are made up, as numbers and as what the calls take; and what answers are held against numbers by.

import (
	"math/big"
	"slices"
	"testing"

	"veil/api"
	"veil/gens"
	"veil/ideal"
	"veil/msm"
	"veil/ranges"
	"veil/sample"
	"veil/scalar"
)

// someNumbers: any, so many.
func someNumbers(m *sample.Maker, count int) numbers {
	list := make(numbers, count)
	for i := range list {
		list[i] = m.Number()
	}
	return list
}

// chance: any but 0; 1 and -1 come up often.
func chance(m *sample.Maker) *big.Int {
	for {
		if n := m.Number(); n.Sign() != 0 {
			return n
		}
	}
}

// anyList: what so many elements stand for.
func anyList[P msm.Group[P]](m *sample.Maker, kind sample.Kind[P], count int) []numbers {
	var list []numbers
	for range count {
		list = append(list, kind.Any(m))
	}
	return list
}

// anyWorld: any generators, some more than are looked at.
func anyWorld[P msm.Group[P]](m *sample.Maker, kind sample.Kind[P], p api.Params) world {
	return world{
		p: p, b: kind.Any(m), blind: kind.Any(m), q: kind.Any(m),
		g: anyList(m, kind, p.Size()+int(m.Next()%3)),
		h: anyList(m, kind, p.Size()+int(m.Next()%3)),
	}
}

// plainWorld: over Line, no generator 0.
func plainWorld(m *sample.Maker, p api.Params) world {
	w := world{p: p, b: numbers{chance(m)}, blind: numbers{chance(m)}, q: numbers{chance(m)}}
	for range p.Size() {
		w.g, w.h = append(w.g, numbers{chance(m)}), append(w.h, numbers{chance(m)})
	}
	return w
}

// basis: the world of gens.Basis.
func basis(p api.Params) world {
	g, _ := gens.Basis(p.Size())
	kind := sample.Frees()
	w := world{p: p, b: kind.To(g.B), blind: kind.To(g.Blind), q: kind.To(g.Q)}
	for i := range p.Size() {
		w.g, w.h = append(w.g, kind.To(g.G[i])), append(w.h, kind.To(g.H[i]))
	}
	return w
}

// anyValue: below 2^n; the least and the greatest come up often.
func anyValue(m *sample.Maker, p api.Params) uint64 {
	top := uint64(1)<<p.Bits - 1
	switch m.Next() % 4 {
	case 0:
		return 0
	case 1:
		return top
	}
	return m.Next() & top
}

// anySecret: that a prover may have.
func anySecret(m *sample.Maker, p api.Params) secret {
	k := secret{alpha: m.Number(), rho: m.Number(), tau1: m.Number(), tau2: m.Number(), sL: someNumbers(m, p.Size()), sR: someNumbers(m, p.Size()), blinds: someNumbers(m, p.Count)}
	for range p.Count {
		k.vs = append(k.vs, anyValue(m, p))
	}
	return k
}

// anyAsked: challenges, none of them 0.
func anyAsked(m *sample.Maker) asked { return asked{y: chance(m), z: chance(m), x: chance(m)} }

// anyMade: that a simulator may have.
func anyMade[P msm.Group[P]](m *sample.Maker, kind sample.Kind[P], p api.Params) made {
	return made{l: someNumbers(m, p.Size()), r: someNumbers(m, p.Size()), taux: m.Number(), mu: m.Number(), s: kind.Any(m), t2: kind.Any(m)}
}

// limbs: scalars that stand for numbers, by any of their limbs.
func limbs(m *sample.Maker, ns numbers) []scalar.Scalar {
	list := make([]scalar.Scalar, len(ns))
	for i, n := range ns {
		list[i] = m.Limbs(n)
	}
	return list
}

// elements: that stand for numbers, by any of their looks.
func elements[P msm.Group[P]](m *sample.Maker, kind sample.Kind[P], list []numbers) []P {
	var out []P
	for _, ns := range list {
		out = append(out, kind.Of(m, ns))
	}
	return out
}

func setOf[P msm.Group[P]](m *sample.Maker, kind sample.Kind[P], w world) gens.Set[P] {
	return gens.Set[P]{B: kind.Of(m, w.b), Blind: kind.Of(m, w.blind), Q: kind.Of(m, w.q), G: elements(m, kind, w.g), H: elements(m, kind, w.h)}
}

func openingsOf(m *sample.Maker, k secret) []ranges.Opening {
	var list []ranges.Opening
	for j, v := range k.vs {
		list = append(list, ranges.Opening{V: v, Blind: m.Limbs(k.blinds[j])})
	}
	return list
}

// proverTape: the tape of what a prover makes up.
func proverTape(m *sample.Maker, k secret) ranges.Tape {
	return ranges.Tape{Alpha: m.Limbs(k.alpha), Rho: m.Limbs(k.rho), Tau1: m.Limbs(k.tau1), Tau2: m.Limbs(k.tau2), SL: limbs(m, k.sL), SR: limbs(m, k.sR)}
}

// madeTape: the tape of what a simulator makes up.
func madeTape[P msm.Group[P]](m *sample.Maker, kind sample.Kind[P], t made) ideal.Tape[P] {
	return ideal.Tape[P]{L: limbs(m, t.l), R: limbs(m, t.r), TauX: m.Limbs(t.taux), Mu: m.Limbs(t.mu), S: kind.Of(m, t.s), T2: kind.Of(m, t.t2)}
}

func viewOf[P msm.Group[P]](m *sample.Maker, kind sample.Kind[P], x sent, a asked) ranges.View[P] {
	return ranges.View[P]{
		A: kind.Of(m, x.a), S: kind.Of(m, x.s), T1: kind.Of(m, x.t1), T2: kind.Of(m, x.t2),
		Y: m.Limbs(a.y), Z: m.Limbs(a.z), X: m.Limbs(a.x),
		TauX: m.Limbs(x.taux), Mu: m.Limbs(x.mu), That: m.Limbs(x.that), L: limbs(m, x.l), R: limbs(m, x.r),
	}
}

// are: elements must stand for these numbers.
func are[P msm.Group[P]](t *testing.T, what string, kind sample.Kind[P], got []P, want ...numbers) {
	t.Helper()
	if len(got) != len(want) {
		t.Fatalf("%s, over %s: %d elements, want %d", what, kind.Name, len(got), len(want))
	}
	for i, p := range got {
		if !kind.Is(p, want[i]) {
			t.Fatalf("%s, over %s: element %d is %v, want %v", what, kind.Name, i, kind.To(p), want[i])
		}
	}
}

// told: scalars must be these numbers, by their least limbs.
func told(t *testing.T, what string, got []scalar.Scalar, want ...*big.Int) {
	t.Helper()
	if len(got) != len(want) {
		t.Fatalf("%s: %d scalars, want %d", what, len(got), len(want))
	}
	for i, k := range got {
		if k != sample.Scalar(want[i]) {
			t.Fatalf("%s: place %d is %v, want %v", what, i, k, sample.Scalar(want[i]))
		}
	}
}

// isView: a view must stand for this.
func isView[P msm.Group[P]](t *testing.T, what string, kind sample.Kind[P], got ranges.View[P], x sent, a asked) {
	t.Helper()
	are(t, what+": A, S, T1, T2", kind, []P{got.A, got.S, got.T1, got.T2}, x.a, x.s, x.t1, x.t2)
	told(t, what+": y, z, x, taux, mu, that", []scalar.Scalar{got.Y, got.Z, got.X, got.TauX, got.Mu, got.That}, a.y, a.z, a.x, x.taux, x.mu, x.that)
	told(t, what+": L", got.L, x.l...)
	told(t, what+": R", got.R, x.r...)
}

// isMade: a simulator's tape must stand for this.
func isMade[P msm.Group[P]](t *testing.T, what string, kind sample.Kind[P], got ideal.Tape[P], x made) {
	t.Helper()
	are(t, what+": S, T2", kind, []P{got.S, got.T2}, x.s, x.t2)
	told(t, what+": taux, mu", []scalar.Scalar{got.TauX, got.Mu}, x.taux, x.mu)
	told(t, what+": L", got.L, x.l...)
	told(t, what+": R", got.R, x.r...)
}

// isSecret: a prover's tape must stand for this.
func isSecret(t *testing.T, what string, got ranges.Tape, k secret) {
	t.Helper()
	told(t, what+": alpha, rho, tau1, tau2", []scalar.Scalar{got.Alpha, got.Rho, got.Tau1, got.Tau2}, k.alpha, k.rho, k.tau1, k.tau2)
	told(t, what+": SL", got.SL, k.sL...)
	told(t, what+": SR", got.SR, k.sR...)
}

// sameViews: field by field, elements as Same tells.
func sameViews[P msm.Group[P]](a, b ranges.View[P]) bool {
	return a.A.Same(b.A) && a.S.Same(b.S) && a.T1.Same(b.T1) && a.T2.Same(b.T2) &&
		a.Y == b.Y && a.Z == b.Z && a.X == b.X && a.TauX == b.TauX && a.Mu == b.Mu && a.That == b.That &&
		slices.Equal(a.L, b.L) && slices.Equal(a.R, b.R)
}

// sameMade: field by field, elements as Same tells.
func sameMade[P msm.Group[P]](a, b ideal.Tape[P]) bool {
	return a.S.Same(b.S) && a.T2.Same(b.T2) && a.TauX == b.TauX && a.Mu == b.Mu && slices.Equal(a.L, b.L) && slices.Equal(a.R, b.R)
}

func sameTapes(a, b ranges.Tape) bool {
	return a.Alpha == b.Alpha && a.Rho == b.Rho && a.Tau1 == b.Tau1 && a.Tau2 == b.Tau2 && slices.Equal(a.SL, b.SL) && slices.Equal(a.SR, b.SR)
}

// errno: an error must be this one.
func errno(t *testing.T, what string, got, want api.Errno) {
	t.Helper()
	if got != want {
		t.Errorf("%s: error %d, want %d", what, got, want)
	}
}

// zeros: 0 by all its limbs.
func zeros() []scalar.Scalar { return sample.Scalars(new(big.Int)) }

// allParams: all that are allowed, up to a size.
func allParams(most int) []api.Params {
	var list []api.Params
	for bits := 1; bits <= api.MaxBits; bits *= 2 {
		for count := 1; count <= api.MaxCount; count *= 2 {
			if bits*count <= most {
				list = append(list, api.Params{Bits: bits, Count: count})
			}
		}
	}
	return list
}

// line: a small number's element.
func line(n int64) msm.Line { return msm.Line{K: num(n)} }

// num: a small number.
func num(n int64) scalar.Scalar { return sample.Scalar(big.NewInt(n)) }

func nums(ns ...int64) []scalar.Scalar {
	list := make([]scalar.Scalar, len(ns))
	for i, n := range ns {
		list[i] = num(n)
	}
	return list
}
