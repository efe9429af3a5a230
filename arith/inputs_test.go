package arith_test

// Inputs that are made up, as numbers and as what the calls take; Oracles; and what answers are held against numbers by.

import (
	"encoding/binary"
	"math/big"
	"slices"
	"testing"

	"veil/api"
	"veil/arith"
	"veil/circuit"
	"veil/gens"
	"veil/msm"
	"veil/sample"
	"veil/scalar"
	"veil/transcript"
)

// someNumbers: any, so many.
func someNumbers(m *sample.Maker, count int) numbers {
	list := make(numbers, count)
	for i := range list {
		list[i] = m.Number()
	}
	return list
}

// chance: any but 0; 1 and -1 come up often.
func chance(m *sample.Maker) *big.Int {
	for {
		if n := m.Number(); n.Sign() != 0 {
			return n
		}
	}
}

// shape: so many values, gates and requirements beside those of the values.
type shape struct{ values, gates, more int }

// small: shapes without values, without gates, with 1, 2, 3, 4, 5 and more gates.
func small() []shape {
	return []shape{{0, 0, 0}, {0, 0, 2}, {0, 1, 0}, {0, 1, 2}, {1, 1, 0}, {1, 1, 1}, {0, 2, 1}, {1, 2, 2}, {2, 2, 0}, {1, 3, 3}, {3, 3, 1}, {2, 4, 4}, {0, 5, 2}, {2, 5, 6}, {5, 5, 5}, {1, 7, 9}, {3, 8, 4}}
}

// few: shapes for what is slow.
func few() []shape { return []shape{{0, 0, 1}, {1, 1, 1}, {1, 2, 2}, {1, 3, 2}} }

// wires: all that are there.
func (s system) wires() []circuit.Wire {
	list := []circuit.Wire{{Kind: api.WireOne}}
	for i := range s.gates {
		for _, kind := range []int{api.WireLeft, api.WireRight, api.WireOut} {
			list = append(list, circuit.Wire{Kind: kind, I: i})
		}
	}
	for j := range s.values {
		list = append(list, circuit.Wire{Kind: api.WireValue, I: j})
	}
	return list
}

// anyAssignment: one whose gates multiply and whose values enter.
func anyAssignment(m *sample.Maker, h shape) (k secret) {
	k.aL, k.aR = someNumbers(m, h.gates), someNumbers(m, h.gates)
	for i := range k.aL {
		k.aO = append(k.aO, times(k.aL[i], k.aR[i]))
	}
	k.v = slices.Clone(k.aL[:h.values])
	return k
}

// number: of a wire, under the assignment.
func (k secret) number(w circuit.Wire) *big.Int {
	switch w.Kind {
	case api.WireLeft:
		return k.aL[w.I]
	case api.WireRight:
		return k.aR[w.I]
	case api.WireOut:
		return k.aO[w.I]
	case api.WireValue:
		return k.v[w.I]
	}
	return big.NewInt(1)
}

// eval: a sum, under the assignment.
func (k secret) eval(list []term) *big.Int {
	sum := new(big.Int)
	for _, x := range list {
		sum = plus(sum, times(x.k, k.number(x.wire)))
	}
	return sum
}

// anySum: of any wires that are there; none at all comes up too.
func (s system) anySum(m *sample.Maker) []term {
	wires := s.wires()
	var list []term
	for range m.Next() % 6 {
		list = append(list, term{wires[m.Next()%uint64(len(wires))], m.Number()})
	}
	return list
}

// anySystem: that this assignment holds for.
func anySystem(m *sample.Maker, h shape, k secret) system {
	s := system{values: h.values, gates: h.gates}
	for j := range h.values {
		s.requires = append(s.requires, entry(j))
	}
	for range h.more {
		sum := s.anySum(m)
		sum = append(sum, term{circuit.Wire{Kind: api.WireOne}, negative(k.eval(sum))})
		s.requires = append(s.requires, least(sum))
	}
	return s
}

// anySecret: an assignment with blindings and a tape.
func anySecret(m *sample.Maker, h shape) secret {
	k := anyAssignment(m, h)
	n := system{gates: h.gates}.size()
	k.blinds = someNumbers(m, h.values)
	k.alpha, k.beta, k.rho = m.Number(), m.Number(), m.Number()
	k.tau1, k.tau3, k.tau4, k.tau5, k.tau6 = m.Number(), m.Number(), m.Number(), m.Number(), m.Number()
	k.sL, k.sR = someNumbers(m, n), someNumbers(m, n)
	return k
}

// anyWorld: any generators, some more than are looked at.
func anyWorld[P msm.Group[P]](m *sample.Maker, kind sample.Kind[P], s system) world {
	w := world{system: s, b: kind.Any(m), blind: kind.Any(m), q: kind.Any(m)}
	for range s.size() + int(m.Next()%3) {
		w.g = append(w.g, kind.Any(m))
	}
	for range s.size() + int(m.Next()%3) {
		w.h = append(w.h, kind.Any(m))
	}
	return w
}

// anyCase: generators, a system, and a prover whose assignment holds for it.
func anyCase[P msm.Group[P]](m *sample.Maker, kind sample.Kind[P], h shape) (world, secret) {
	k := anySecret(m, h)
	return anyWorld(m, kind, anySystem(m, h, k)), k
}

// anyAsked: challenges, none of them 0.
func anyAsked(m *sample.Maker, s system) asked {
	a := asked{y: chance(m), z: chance(m), x: chance(m), w: chance(m), c: chance(m)}
	for range s.rounds() {
		a.us = append(a.us, chance(m))
	}
	return a
}

// anySent: what nobody made.
func anySent[P msm.Group[P]](m *sample.Maker, kind sample.Kind[P], s system) sent {
	x := sent{
		ai: kind.Any(m), ao: kind.Any(m), s: kind.Any(m),
		t1: kind.Any(m), t3: kind.Any(m), t4: kind.Any(m), t5: kind.Any(m), t6: kind.Any(m),
		taux: m.Number(), mu: m.Number(), that: m.Number(), ea: m.Number(), eb: m.Number(),
		l: someNumbers(m, s.size()), r: someNumbers(m, s.size()),
	}
	for range s.values {
		x.v = append(x.v, kind.Any(m))
	}
	for range s.rounds() {
		x.left, x.right = append(x.left, kind.Any(m)), append(x.right, kind.Any(m))
	}
	return x
}

// limbs: scalars that stand for numbers, by any of their limbs.
func limbs(m *sample.Maker, ns numbers) []scalar.Scalar {
	list := make([]scalar.Scalar, len(ns))
	for i, n := range ns {
		list[i] = m.Limbs(n)
	}
	return list
}

// elements: that stand for numbers, by any of their looks.
func elements[P msm.Group[P]](m *sample.Maker, kind sample.Kind[P], list []numbers) []P {
	var out []P
	for _, ns := range list {
		out = append(out, kind.Of(m, ns))
	}
	return out
}

// systemOf: built by calls of package circuit; its factors by any limbs.
func systemOf(m *sample.Maker, s system) *circuit.System {
	out, _ := circuit.New(s.values)
	for range s.gates - s.values {
		out.Gate()
	}
	for _, r := range s.requires[s.values:] {
		var x circuit.Lin
		for _, t := range r {
			x = append(x, circuit.Term{Wire: t.wire, K: m.Limbs(t.k)})
		}
		out.Require(x)
	}
	return out
}

func setOf[P msm.Group[P]](m *sample.Maker, kind sample.Kind[P], w world) gens.Set[P] {
	return gens.Set[P]{B: kind.Of(m, w.b), Blind: kind.Of(m, w.blind), Q: kind.Of(m, w.q), G: elements(m, kind, w.g), H: elements(m, kind, w.h)}
}

func assignmentOf(m *sample.Maker, k secret) circuit.Assignment {
	return circuit.Assignment{L: limbs(m, k.aL), R: limbs(m, k.aR), O: limbs(m, k.aO), V: limbs(m, k.v)}
}

func tapeOf(m *sample.Maker, k secret) arith.Tape {
	return arith.Tape{
		Alpha: m.Limbs(k.alpha), Beta: m.Limbs(k.beta), Rho: m.Limbs(k.rho),
		Tau1: m.Limbs(k.tau1), Tau3: m.Limbs(k.tau3), Tau4: m.Limbs(k.tau4), Tau5: m.Limbs(k.tau5), Tau6: m.Limbs(k.tau6),
		SL: limbs(m, k.sL), SR: limbs(m, k.sR),
	}
}

func viewOf[P msm.Group[P]](m *sample.Maker, kind sample.Kind[P], x sent, a asked) arith.View[P] {
	return arith.View[P]{
		AI: kind.Of(m, x.ai), AO: kind.Of(m, x.ao), S: kind.Of(m, x.s),
		T1: kind.Of(m, x.t1), T3: kind.Of(m, x.t3), T4: kind.Of(m, x.t4), T5: kind.Of(m, x.t5), T6: kind.Of(m, x.t6),
		Y: m.Limbs(a.y), Z: m.Limbs(a.z), X: m.Limbs(a.x),
		TauX: m.Limbs(x.taux), Mu: m.Limbs(x.mu), That: m.Limbs(x.that),
		L: limbs(m, x.l), R: limbs(m, x.r),
	}
}

func proofOf[P msm.Group[P]](m *sample.Maker, kind sample.Kind[P], x sent) arith.Proof[P] {
	return arith.Proof[P]{
		AI: kind.Of(m, x.ai), AO: kind.Of(m, x.ao), S: kind.Of(m, x.s),
		T1: kind.Of(m, x.t1), T3: kind.Of(m, x.t3), T4: kind.Of(m, x.t4), T5: kind.Of(m, x.t5), T6: kind.Of(m, x.t6),
		TauX: m.Limbs(x.taux), Mu: m.Limbs(x.mu), That: m.Limbs(x.that),
		L: elements(m, kind, x.left), R: elements(m, kind, x.right), Ea: m.Limbs(x.ea), Eb: m.Limbs(x.eb),
	}
}

// are: elements must stand for these numbers.
func are[P msm.Group[P]](t *testing.T, what string, kind sample.Kind[P], got []P, want ...numbers) {
	t.Helper()
	if len(got) != len(want) {
		t.Fatalf("%s, over %s: %d elements, want %d", what, kind.Name, len(got), len(want))
	}
	for i, p := range got {
		if !kind.Is(p, want[i]) {
			t.Fatalf("%s, over %s: element %d is %v, want %v", what, kind.Name, i, kind.To(p), want[i])
		}
	}
}

// told: scalars must be these numbers, by their least limbs.
func told(t *testing.T, what string, got []scalar.Scalar, want ...*big.Int) {
	t.Helper()
	if len(got) != len(want) {
		t.Fatalf("%s: %d scalars, want %d", what, len(got), len(want))
	}
	for i, k := range got {
		if k != sample.Scalar(want[i]) {
			t.Fatalf("%s: place %d is %v, want %v", what, i, k, sample.Scalar(want[i]))
		}
	}
}

// isView: a view must stand for this.
func isView[P msm.Group[P]](t *testing.T, what string, kind sample.Kind[P], w arith.View[P], x sent, a asked) {
	t.Helper()
	are(t, what+": AI, AO, S, T1, T3, T4, T5, T6", kind, []P{w.AI, w.AO, w.S, w.T1, w.T3, w.T4, w.T5, w.T6}, x.ai, x.ao, x.s, x.t1, x.t3, x.t4, x.t5, x.t6)
	told(t, what+": y, z, x, taux, mu, that", []scalar.Scalar{w.Y, w.Z, w.X, w.TauX, w.Mu, w.That}, a.y, a.z, a.x, x.taux, x.mu, x.that)
	told(t, what+": L", w.L, x.l...)
	told(t, what+": R", w.R, x.r...)
}

// isProof: a proof must stand for this.
func isProof[P msm.Group[P]](t *testing.T, what string, kind sample.Kind[P], p arith.Proof[P], x sent) {
	t.Helper()
	are(t, what+": AI, AO, S, T1, T3, T4, T5, T6", kind, []P{p.AI, p.AO, p.S, p.T1, p.T3, p.T4, p.T5, p.T6}, x.ai, x.ao, x.s, x.t1, x.t3, x.t4, x.t5, x.t6)
	told(t, what+": taux, mu, that, a, b", []scalar.Scalar{p.TauX, p.Mu, p.That, p.Ea, p.Eb}, x.taux, x.mu, x.that, x.ea, x.eb)
	are(t, what+": L", kind, p.L, x.left...)
	are(t, what+": R", kind, p.R, x.right...)
}

// noView: what comes beside an error must be zero.
func noView[P msm.Group[P]](t *testing.T, what string, v []P, w arith.View[P], got, want api.Errno) {
	t.Helper()
	errno(t, what, got, want)
	var zero P
	for _, p := range []P{w.AI, w.AO, w.S, w.T1, w.T3, w.T4, w.T5, w.T6} {
		if !p.Same(zero) {
			t.Errorf("%s: an element beside an error", what)
		}
	}
	for _, k := range []scalar.Scalar{w.Y, w.Z, w.X, w.TauX, w.Mu, w.That} {
		if k != (scalar.Scalar{}) {
			t.Errorf("%s: a scalar beside an error", what)
		}
	}
	if len(v) != 0 || len(w.L) != 0 || len(w.R) != 0 {
		t.Errorf("%s: lists beside an error", what)
	}
}

// noProof: what comes beside an error must be zero.
func noProof[P msm.Group[P]](t *testing.T, what string, v []P, x arith.Proof[P], got, want api.Errno) {
	t.Helper()
	noView(t, what, v, arith.View[P]{AI: x.AI, AO: x.AO, S: x.S, T1: x.T1, T3: x.T3, T4: x.T4, T5: x.T5, T6: x.T6, TauX: x.TauX, Mu: x.Mu, That: x.That, X: x.Ea, Y: x.Eb}, got, want)
	if len(x.L) != 0 || len(x.R) != 0 {
		t.Errorf("%s: lists beside an error", what)
	}
}

// errno: an error must be this one.
func errno(t *testing.T, what string, got, want api.Errno) {
	t.Helper()
	if got != want {
		t.Errorf("%s: error %d, want %d", what, got, want)
	}
}

// zeros: 0 by all its limbs.
func zeros() []scalar.Scalar { return sample.Scalars(new(big.Int)) }

// oracle: of the test's own: it answers its scalars one by one, by any limbs, then an error, with a scalar that is none; it keeps what it is told, and writes into it.
type oracle struct {
	list  []scalar.Scalar
	e     api.Errno
	heard []transcript.Said
}

func (o *oracle) Absorb(label string, parts ...[]byte) {
	said := transcript.Said{Label: label}
	for _, part := range parts {
		said.Parts = append(said.Parts, slices.Clone(part))
	}
	o.heard = append(o.heard, said)
	for i, part := range parts {
		whole := part[:cap(part)]
		for j := range whole {
			whole[j] ^= 0xff
		}
		parts[i] = nil
	}
}

func (o *oracle) Draw(label string) (scalar.Scalar, api.Errno) {
	o.heard = append(o.heard, transcript.Said{Draw: true, Label: label})
	if len(o.list) == 0 {
		return scalar.Int(77), o.e
	}
	u := o.list[0]
	o.list = o.list[1:]
	return u, api.OK
}

// answering: an oracle with these challenges, by any limbs, and an error behind them that nobody may see.
func answering(m *sample.Maker, a asked) *oracle {
	return &oracle{list: limbs(m, a.list()), e: api.ErrTx}
}

// le64: a number as 8 bytes.
func le64(n int) []byte { return binary.LittleEndian.AppendUint64(nil, uint64(n)) }

// saidOf: what is said of a proof, up to so many Draws; all, if there are fewer.
func saidOf[P msm.Group[P]](kind sample.Kind[P], s system, x sent, draws int) []transcript.Said {
	draw := func(label string) transcript.Said { return transcript.Said{Draw: true, Label: label} }
	absorb := func(label string, parts ...[]byte) transcript.Said {
		return transcript.Said{Label: label, Parts: parts}
	}
	element := func(ns numbers) []byte {
		b := kind.Of(new(sample.Maker), ns).Encode()
		return b[:]
	}
	number := func(n *big.Int) []byte { return sample.Bytes(n, 32) }

	var commitments [][]byte
	for _, v := range x.v {
		commitments = append(commitments, element(v))
	}
	list := []transcript.Said{
		absorb("circuit", s.bytes()), absorb("V", commitments...),
		absorb("AI", element(x.ai)), absorb("AO", element(x.ao)), absorb("S", element(x.s)), draw("y"), draw("z"),
		absorb("T1", element(x.t1)), absorb("T3", element(x.t3)), absorb("T4", element(x.t4)), absorb("T5", element(x.t5)), absorb("T6", element(x.t6)), draw("x"),
		absorb("taux", number(x.taux)), absorb("mu", number(x.mu)), absorb("that", number(x.that)), draw("w"),
		absorb("ipa", le64(s.size())),
	}
	for t := range x.left {
		list = append(list, absorb("L", element(x.left[t])), absorb("R", element(x.right[t])), draw("u"))
	}
	list = append(list, absorb("a", number(x.ea)), absorb("b", number(x.eb)), draw("c"))

	for i, said := range list {
		if said.Draw {
			draws--
		}
		if draws == 0 {
			return list[:i+1]
		}
	}
	return list
}

// heard: all that was said must be this.
func heard(t *testing.T, what string, got []transcript.Said, want ...transcript.Said) {
	t.Helper()
	same := slices.EqualFunc(got, want, func(a, b transcript.Said) bool {
		return a.Draw == b.Draw && a.Label == b.Label && slices.EqualFunc(a.Parts, b.Parts, slices.Equal[[]byte])
	})
	if !same {
		t.Errorf("%s: was said %.600v, want %.600v", what, got, want)
	}
}

// line: a small number's element.
func line(n int64) msm.Line { return msm.Line{K: num(n)} }

func lines(ns ...int64) []msm.Line {
	list := make([]msm.Line, len(ns))
	for i, n := range ns {
		list[i] = line(n)
	}
	return list
}

// num: a small number.
func num(n int64) scalar.Scalar { return sample.Scalar(big.NewInt(n)) }

func nums(ns ...int64) []scalar.Scalar {
	list := make([]scalar.Scalar, len(ns))
	for i, n := range ns {
		list[i] = num(n)
	}
	return list
}
