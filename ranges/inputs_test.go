package ranges_test

// Inputs that are made up, as numbers and as what the calls take; Oracles; and what answers are held against numbers by.

import (
	"encoding/binary"
	"math/big"
	"slices"
	"testing"

	"veil/api"
	"veil/gens"
	"veil/msm"
	"veil/ranges"
	"veil/sample"
	"veil/scalar"
	"veil/transcript"
	"veil/wire"
)

// someNumbers: any, so many.
func someNumbers(m *sample.Maker, count int) numbers {
	list := make(numbers, count)
	for i := range list {
		list[i] = m.Number()
	}
	return list
}

// chance: any but 0; 1 and -1 come up often.
func chance(m *sample.Maker) *big.Int {
	for {
		if n := m.Number(); n.Sign() != 0 {
			return n
		}
	}
}

// anyWorld: any generators, some more than are looked at.
func anyWorld[P msm.Group[P]](m *sample.Maker, kind sample.Kind[P], p api.Params) world {
	w := world{p: p, b: kind.Any(m), blind: kind.Any(m), q: kind.Any(m)}
	for range p.Size() + int(m.Next()%3) {
		w.g = append(w.g, kind.Any(m))
	}
	for range p.Size() + int(m.Next()%3) {
		w.h = append(w.h, kind.Any(m))
	}
	return w
}

// anyValue: below 2^n; the least and the greatest come up often.
func anyValue(m *sample.Maker, p api.Params) uint64 {
	top := uint64(1)<<p.Bits - 1
	switch m.Next() % 4 {
	case 0:
		return 0
	case 1:
		return top
	}
	return m.Next() & top
}

// anySecret: that a prover may have.
func anySecret(m *sample.Maker, p api.Params) secret {
	k := secret{alpha: m.Number(), rho: m.Number(), tau1: m.Number(), tau2: m.Number(), sL: someNumbers(m, p.Size()), sR: someNumbers(m, p.Size()), blinds: someNumbers(m, p.Count)}
	for range p.Count {
		k.vs = append(k.vs, anyValue(m, p))
	}
	return k
}

// anyAsked: challenges, none of them 0.
func anyAsked(m *sample.Maker, p api.Params) asked {
	a := asked{y: chance(m), z: chance(m), x: chance(m), w: chance(m), c: chance(m)}
	for range p.Rounds() {
		a.us = append(a.us, chance(m))
	}
	return a
}

// anySent: what nobody made.
func anySent[P msm.Group[P]](m *sample.Maker, kind sample.Kind[P], p api.Params) sent {
	x := sent{a: kind.Any(m), s: kind.Any(m), t1: kind.Any(m), t2: kind.Any(m), taux: m.Number(), mu: m.Number(), that: m.Number(), ea: m.Number(), eb: m.Number(), l: someNumbers(m, p.Size()), r: someNumbers(m, p.Size())}
	for range p.Count {
		x.v = append(x.v, kind.Any(m))
	}
	for range p.Rounds() {
		x.left, x.right = append(x.left, kind.Any(m)), append(x.right, kind.Any(m))
	}
	return x
}

// limbs: scalars that stand for numbers, by any of their limbs.
func limbs(m *sample.Maker, ns numbers) []scalar.Scalar {
	list := make([]scalar.Scalar, len(ns))
	for i, n := range ns {
		list[i] = m.Limbs(n)
	}
	return list
}

// elements: that stand for numbers, by any of their looks.
func elements[P msm.Group[P]](m *sample.Maker, kind sample.Kind[P], list []numbers) []P {
	var out []P
	for _, ns := range list {
		out = append(out, kind.Of(m, ns))
	}
	return out
}

func setOf[P msm.Group[P]](m *sample.Maker, kind sample.Kind[P], w world) gens.Set[P] {
	return gens.Set[P]{B: kind.Of(m, w.b), Blind: kind.Of(m, w.blind), Q: kind.Of(m, w.q), G: elements(m, kind, w.g), H: elements(m, kind, w.h)}
}

func openingsOf(m *sample.Maker, k secret) []ranges.Opening {
	var list []ranges.Opening
	for j, v := range k.vs {
		list = append(list, ranges.Opening{V: v, Blind: m.Limbs(k.blinds[j])})
	}
	return list
}

func tapeOf(m *sample.Maker, k secret) ranges.Tape {
	return ranges.Tape{Alpha: m.Limbs(k.alpha), Rho: m.Limbs(k.rho), Tau1: m.Limbs(k.tau1), Tau2: m.Limbs(k.tau2), SL: limbs(m, k.sL), SR: limbs(m, k.sR)}
}

func viewOf[P msm.Group[P]](m *sample.Maker, kind sample.Kind[P], x sent, a asked) ranges.View[P] {
	return ranges.View[P]{
		A: kind.Of(m, x.a), S: kind.Of(m, x.s), T1: kind.Of(m, x.t1), T2: kind.Of(m, x.t2),
		Y: m.Limbs(a.y), Z: m.Limbs(a.z), X: m.Limbs(a.x),
		TauX: m.Limbs(x.taux), Mu: m.Limbs(x.mu), That: m.Limbs(x.that), L: limbs(m, x.l), R: limbs(m, x.r),
	}
}

func proofOf[P msm.Group[P]](m *sample.Maker, kind sample.Kind[P], x sent) wire.Proof[P] {
	return wire.Proof[P]{
		A: kind.Of(m, x.a), S: kind.Of(m, x.s), T1: kind.Of(m, x.t1), T2: kind.Of(m, x.t2),
		TauX: m.Limbs(x.taux), Mu: m.Limbs(x.mu), That: m.Limbs(x.that),
		L: elements(m, kind, x.left), R: elements(m, kind, x.right), Ea: m.Limbs(x.ea), Eb: m.Limbs(x.eb),
	}
}

// are: elements must stand for these numbers.
func are[P msm.Group[P]](t *testing.T, what string, kind sample.Kind[P], got []P, want ...numbers) {
	t.Helper()
	if len(got) != len(want) {
		t.Fatalf("%s, over %s: %d elements, want %d", what, kind.Name, len(got), len(want))
	}
	for i, p := range got {
		if !kind.Is(p, want[i]) {
			t.Fatalf("%s, over %s: element %d is %v, want %v", what, kind.Name, i, kind.To(p), want[i])
		}
	}
}

// told: scalars must be these numbers, by their least limbs.
func told(t *testing.T, what string, got []scalar.Scalar, want ...*big.Int) {
	t.Helper()
	if len(got) != len(want) {
		t.Fatalf("%s: %d scalars, want %d", what, len(got), len(want))
	}
	for i, k := range got {
		if k != sample.Scalar(want[i]) {
			t.Fatalf("%s: place %d is %v, want %v", what, i, k, sample.Scalar(want[i]))
		}
	}
}

// isView: a view must stand for this, as far as so many of its three messages go, and be zero behind that.
func isView[P msm.Group[P]](t *testing.T, what string, kind sample.Kind[P], got ranges.View[P], x sent, a asked, messages int) {
	t.Helper()
	none := new(big.Int)
	if messages < 3 {
		x.taux, x.mu, x.that, x.l, x.r, a.x = none, none, none, nil, nil, none
	}
	if messages < 2 {
		x.t1, x.t2, a.y, a.z = nil, nil, none, none
	}
	if messages < 1 {
		x.a, x.s = nil, nil
	}
	are(t, what+": A, S, T1, T2", kind, []P{got.A, got.S, got.T1, got.T2}, x.a, x.s, x.t1, x.t2)
	told(t, what+": y, z, x, taux, mu, that", []scalar.Scalar{got.Y, got.Z, got.X, got.TauX, got.Mu, got.That}, a.y, a.z, a.x, x.taux, x.mu, x.that)
	told(t, what+": L", got.L, x.l...)
	told(t, what+": R", got.R, x.r...)
}

// isProof: a proof must stand for this.
func isProof[P msm.Group[P]](t *testing.T, what string, kind sample.Kind[P], got wire.Proof[P], x sent) {
	t.Helper()
	are(t, what+": A, S, T1, T2", kind, []P{got.A, got.S, got.T1, got.T2}, x.a, x.s, x.t1, x.t2)
	told(t, what+": taux, mu, that, a, b", []scalar.Scalar{got.TauX, got.Mu, got.That, got.Ea, got.Eb}, x.taux, x.mu, x.that, x.ea, x.eb)
	are(t, what+": L", kind, got.L, x.left...)
	are(t, what+": R", kind, got.R, x.right...)
}

// noView: what comes beside an error must be zero.
func noView[P msm.Group[P]](t *testing.T, what string, w ranges.View[P], got, want api.Errno) {
	t.Helper()
	errno(t, what, got, want)
	var zero P
	for _, p := range []P{w.A, w.S, w.T1, w.T2} {
		if !p.Same(zero) {
			t.Errorf("%s: an element beside an error", what)
		}
	}
	for _, k := range []scalar.Scalar{w.Y, w.Z, w.X, w.TauX, w.Mu, w.That} {
		if k != (scalar.Scalar{}) {
			t.Errorf("%s: a scalar beside an error", what)
		}
	}
	if len(w.L) != 0 || len(w.R) != 0 {
		t.Errorf("%s: lists beside an error", what)
	}
}

// noProof: what comes beside an error must be zero.
func noProof[P msm.Group[P]](t *testing.T, what string, v []P, x wire.Proof[P], got, want api.Errno) {
	t.Helper()
	noView(t, what, ranges.View[P]{A: x.A, S: x.S, T1: x.T1, T2: x.T2, TauX: x.TauX, Mu: x.Mu, That: x.That, X: x.Ea, Y: x.Eb}, got, want)
	if len(v) != 0 || len(x.L) != 0 || len(x.R) != 0 {
		t.Errorf("%s: lists beside an error", what)
	}
}

// errno: an error must be this one.
func errno(t *testing.T, what string, got, want api.Errno) {
	t.Helper()
	if got != want {
		t.Errorf("%s: error %d, want %d", what, got, want)
	}
}

// right: OK, if it is so; else the error.
func right(so bool, e api.Errno) api.Errno {
	if so {
		return api.OK
	}
	return e
}

// first: the first of these that is an error.
func first(list ...api.Errno) api.Errno {
	for _, e := range list {
		if e != api.OK {
			return e
		}
	}
	return api.OK
}

// zeros: 0 by all its limbs.
func zeros() []scalar.Scalar { return sample.Scalars(new(big.Int)) }

// oracle: of the test's own: it answers its scalars one by one, by any limbs, then an error, with a scalar that is none; it keeps what it is told, and writes into it.
type oracle struct {
	list  []scalar.Scalar
	e     api.Errno
	heard []transcript.Said
}

func (o *oracle) Absorb(label string, parts ...[]byte) {
	said := transcript.Said{Label: label}
	for _, part := range parts {
		said.Parts = append(said.Parts, slices.Clone(part))
	}
	o.heard = append(o.heard, said)
	for i, part := range parts {
		whole := part[:cap(part)]
		for j := range whole {
			whole[j] ^= 0xff
		}
		parts[i] = nil
	}
}

func (o *oracle) Draw(label string) (scalar.Scalar, api.Errno) {
	o.heard = append(o.heard, transcript.Said{Draw: true, Label: label})
	if len(o.list) == 0 {
		return scalar.Int(77), o.e
	}
	u := o.list[0]
	o.list = o.list[1:]
	return u, api.OK
}

// answering: an oracle with these challenges, by any limbs, and an error behind them that nobody may see.
func answering(m *sample.Maker, a asked) *oracle {
	return &oracle{list: limbs(m, a.list()), e: api.ErrTx}
}

// le64: a number as 8 bytes.
func le64(n int) []byte { return binary.LittleEndian.AppendUint64(nil, uint64(n)) }

// saidOf: what is said of a proof, up to so many Draws; all, if there are fewer.
func saidOf[P msm.Group[P]](kind sample.Kind[P], p api.Params, x sent, draws int) []transcript.Said {
	draw := func(label string) transcript.Said { return transcript.Said{Draw: true, Label: label} }
	absorb := func(label string, parts ...[]byte) transcript.Said {
		return transcript.Said{Label: label, Parts: parts}
	}
	element := func(ns numbers) []byte {
		b := kind.Of(new(sample.Maker), ns).Encode()
		return b[:]
	}
	number := func(n *big.Int) []byte { return sample.Bytes(n, 32) }

	var commitments [][]byte
	for _, v := range x.v {
		commitments = append(commitments, element(v))
	}
	list := []transcript.Said{
		absorb("range", le64(p.Bits), le64(p.Count)), absorb("V", commitments...),
		absorb("A", element(x.a)), absorb("S", element(x.s)), draw("y"), draw("z"),
		absorb("T1", element(x.t1)), absorb("T2", element(x.t2)), draw("x"),
		absorb("taux", number(x.taux)), absorb("mu", number(x.mu)), absorb("that", number(x.that)), draw("w"),
		absorb("ipa", le64(p.Size())),
	}
	for t := range x.left {
		list = append(list, absorb("L", element(x.left[t])), absorb("R", element(x.right[t])), draw("u"))
	}
	list = append(list, absorb("a", number(x.ea)), absorb("b", number(x.eb)), draw("c"))

	for i, said := range list {
		if said.Draw {
			draws--
		}
		if draws == 0 {
			return list[:i+1]
		}
	}
	return list
}

// heard: all that was said must be this.
func heard(t *testing.T, what string, got []transcript.Said, want ...transcript.Said) {
	t.Helper()
	same := slices.EqualFunc(got, want, func(a, b transcript.Said) bool {
		return a.Draw == b.Draw && a.Label == b.Label && slices.EqualFunc(a.Parts, b.Parts, slices.Equal[[]byte])
	})
	if !same {
		t.Errorf("%s: was said %v, want %v", what, got, want)
	}
}

// allParams: all that are allowed, up to a size.
func allParams(most int) []api.Params {
	var list []api.Params
	for bits := 1; bits <= api.MaxBits; bits *= 2 {
		for count := 1; count <= api.MaxCount; count *= 2 {
			if bits*count <= most {
				list = append(list, api.Params{Bits: bits, Count: count})
			}
		}
	}
	return list
}

// line: a small number's element.
func line(n int64) msm.Line { return msm.Line{K: num(n)} }

// num: a small number.
func num(n int64) scalar.Scalar { return sample.Scalar(big.NewInt(n)) }

func nums(ns ...int64) []scalar.Scalar {
	list := make([]scalar.Scalar, len(ns))
	for i, n := range ns {
		list[i] = num(n)
	}
	return list
}
