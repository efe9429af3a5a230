package arith_test

// P2101, P2102 and P2104: sizes, tapes, a prover's view, and what is folded of it.

import (
	"slices"
	"testing"

	"veil/api"
	"veil/arith"
	"veil/circuit"
	"veil/msm"
	"veil/sample"
	"veil/scalar"
)

// noSystems: a nil one, and such as nobody made.
func noSystems() []*circuit.System { return []*circuit.System{nil, {}, new(circuit.System)} }

// gated: a system of so many gates.
func gated(values, gates int) *circuit.System {
	s, _ := circuit.New(values)
	for range gates - values {
		s.Gate()
	}
	return s
}

func sameTapes(a, b arith.Tape) bool {
	single := func(t arith.Tape) []scalar.Scalar {
		return []scalar.Scalar{t.Alpha, t.Beta, t.Rho, t.Tau1, t.Tau3, t.Tau4, t.Tau5, t.Tau6}
	}
	return slices.Equal(single(a), single(b)) && slices.Equal(a.SL, b.SL) && slices.Equal(a.SR, b.SR)
}

func TestP2101Sizes(t *testing.T) {
	for _, s := range noSystems() {
		if got := arith.Size(s); got != 0 {
			t.Errorf("Size without a system: %d", got)
		}
	}
	want := map[int]int{0: 1, 1: 1, 2: 2, 3: 4, 4: 4, 5: 8, 7: 8, 8: 8, 9: 16, 16: 16, 17: 32, 33: 64, 511: 512, 512: 512, 513: 1024, 1023: 1024, 1024: 1024}
	for gates, n := range want {
		s := gated(0, gates)
		if got := arith.Size(s); got != n || s.Gates() != gates {
			t.Errorf("Size of %d gates: %d, want %d", gates, got, n)
		}
		s.Require(circuit.Const(num(5)))
		if got := arith.Size(s.Clone()); got != n {
			t.Errorf("Size of %d gates and a requirement: %d, want %d", gates, got, n)
		}
	}
	for values, n := range []int{1, 1, 2, 4, 4, 8, 8, 8, 8, 16, 16, 16, 16, 16, 16, 16, 16} {
		if got := arith.Size(gated(values, values)); got != n {
			t.Errorf("Size of %d values: %d, want %d", values, got, n)
		}
	}
}

func TestP2101Tapes(t *testing.T) {
	m := sample.Maker(2101)
	for _, gates := range []int{0, 1, 2, 3, 4, 5, 8, 9, 100, 1023, 1024} {
		s := gated(0, gates)
		n := system{gates: gates}.size()
		need := 64 * (2*n + 8)
		stream := m.Bytes(need + 65)
		var want numbers
		for i := range 2*n + 8 {
			want = append(want, sample.Mod(sample.Number(stream[64*i:64*(i+1)])))
		}
		for _, length := range []int{need, need + 1, need + 64, need + 65} {
			tape, e := arith.ReadTape(s, stream[:length])
			errno(t, "ReadTape", e, api.OK)
			told(t, "ReadTape", []scalar.Scalar{tape.Alpha, tape.Beta, tape.Rho, tape.Tau1, tape.Tau3, tape.Tau4, tape.Tau5, tape.Tau6}, want[:8]...)
			told(t, "SL", tape.SL, want[8:8+n]...)
			told(t, "SR", tape.SR, want[8+n:]...)
		}
		for _, length := range []int{0, 1, 64, 511, need - 65, need - 64, need - 1} {
			tape, e := arith.ReadTape(s, stream[:length])
			errno(t, "ReadTape of too few", e, api.ErrShort)
			if !sameTapes(tape, arith.Tape{}) {
				t.Errorf("%d gates: a tape beside an error", gates)
			}
		}
	}
	for _, s := range noSystems() {
		for _, length := range []int{0, 640, 1 << 18} {
			tape, e := arith.ReadTape(s, make([]byte, length))
			errno(t, "ReadTape without a system", e, api.ErrArg)
			if !sameTapes(tape, arith.Tape{}) {
				t.Error("a tape beside an error")
			}
		}
	}
}

func playOver[P msm.Group[P]](t *testing.T, m *sample.Maker, kind sample.Kind[P], shapes []shape) {
	t.Helper()
	for _, h := range shapes {
		w, k := anyCase(m, kind, h)
		a := anyAsked(m, w.system)
		x := w.said(k, a)
		s := systemOf(m, w.system)
		v, view, e := arith.Play(setOf(m, kind, w), s, assignmentOf(m, k), limbs(m, k.blinds), tapeOf(m, k), m.Limbs(a.y), m.Limbs(a.z), m.Limbs(a.x))
		errno(t, "Play", e, api.OK)
		are(t, "Play: commitments", kind, v, x.v...)
		isView(t, "Play", kind, view, x, a)
		errno(t, "Accepts", arith.Accepts(setOf(m, kind, w), s, elements(m, kind, x.v), viewOf(m, kind, x, a)), api.OK)
		errno(t, "Accepts of what was answered", arith.Accepts(setOf(m, kind, w), s, v, view), api.OK)
	}
}

func TestP2102P2110Play(t *testing.T) {
	t.Parallel()
	m := sample.Maker(2102)
	for range 4 {
		playOver(t, &m, sample.Lines(), small())
		playOver(t, &m, sample.Frees(), small())
		playOver(t, &m, sample.Boxes(), small())
	}
	playOver(t, &m, sample.Lines(), []shape{{16, 16, 20}, {4, 33, 40}, {3, 200, 99}})
	playOver(t, &m, sample.Points(), few())
}

// The greatest system: as many gates, requirements and values as there can be.
func TestP2102TheGreatestSystem(t *testing.T) {
	t.Parallel()
	m := sample.Maker(21020)
	playOver(t, &m, sample.Lines(), []shape{{16, api.MaxGates, api.MaxRequires - 16}})
}

// t2 of a prover whose assignment holds is <wV, v> + C + Delta, whatever the tape is.
func TestP2102TheSecondCoefficient(t *testing.T) {
	m := sample.Maker(21021)
	for _, h := range small() {
		w, k := anyCase(&m, sample.Lines(), h)
		a := anyAsked(&m, w.system)
		l, r := w.coefficients(k, a.y, a.z)
		f := w.flat(a.z)
		if product(l, r)[2].Cmp(plus(plus(inner(f.v, k.v), f.c), w.delta(a.y, a.z))) != 0 {
			t.Errorf("%v: the tests' own words are not the document's", h)
		}
	}
}

func statementsOver[P msm.Group[P]](t *testing.T, m *sample.Maker, kind sample.Kind[P], shapes []shape) {
	t.Helper()
	for _, h := range shapes {
		w, _ := anyCase(m, kind, h)
		a := anyAsked(m, w.system)
		x := anySent(m, kind, w.system)
		view := viewOf(m, kind, x, a)
		switch m.Next() % 3 { // L and R are not looked at
		case 0:
			view.L, view.R = nil, nil
		case 1:
			view.L, view.R = view.L[1:], append(view.R, num(4))
		}
		s, e := arith.Statement(setOf(m, kind, w), systemOf(m, w.system), view, m.Limbs(a.w))
		errno(t, "Statement", e, api.OK)
		are(t, "Statement: P and Q", kind, []P{s.P, s.Q}, w.image(x, a).Plus(w.q.Times(times(a.w, x.that))), w.q.Times(a.w))
		are(t, "Statement: G", kind, s.G, w.g[:w.size()]...)
		are(t, "Statement: H", kind, s.H, w.turned(a.y)...)
	}
}

func TestP2104Statements(t *testing.T) {
	t.Parallel()
	m := sample.Maker(2104)
	for range 4 {
		statementsOver(t, &m, sample.Lines(), small())
		statementsOver(t, &m, sample.Frees(), small())
		statementsOver(t, &m, sample.Boxes(), small())
	}
	statementsOver(t, &m, sample.Lines(), []shape{{2, 100, 10}, {0, 1024, 3}})
	statementsOver(t, &m, sample.Points(), few())
}
