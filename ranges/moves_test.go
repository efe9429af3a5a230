package ranges_test

// P1301 to P1305: tapes, the moves of a prover, and what a verifier makes of a view.

import (
	"math/big"
	"testing"

	"veil/api"
	"veil/msm"
	"veil/ranges"
	"veil/sample"
	"veil/scalar"
)

func TestP1301Tapes(t *testing.T) {
	m := sample.Maker(1301)
	for _, p := range allParams(api.MaxSize) {
		size := p.Size()
		stream := m.Bytes(64*(2*size+4) + int(m.Next()%3)*64)
		var want numbers
		for i := range 2*size + 4 {
			want = append(want, sample.Mod(sample.Number(stream[64*i:64*(i+1)])))
		}
		tape, e := ranges.ReadTape(p, stream)
		errno(t, "ReadTape", e, api.OK)
		told(t, "Alpha, Rho, Tau1, Tau2", []scalar.Scalar{tape.Alpha, tape.Rho, tape.Tau1, tape.Tau2}, want[0], want[1], want[2*size+2], want[2*size+3])
		told(t, "SL", tape.SL, want[2:2+size]...)
		told(t, "SR", tape.SR, want[2+size:2+2*size]...)
	}
}

// What lies behind a tape's scalars is not looked at; one byte too few is too few.
func TestP1301LengthsOfStreams(t *testing.T) {
	m := sample.Maker(13010)
	for _, p := range []api.Params{{Bits: 1, Count: 1}, {Bits: 8, Count: 1}, {Bits: 2, Count: 4}, {Bits: 64, Count: 16}} {
		need := 64 * (2*p.Size() + 4)
		stream := m.Bytes(need + 65)
		whole, e := ranges.ReadTape(p, stream[:need])
		errno(t, "ReadTape", e, api.OK)
		for _, length := range []int{need + 1, need + 63, need + 64, need + 65} {
			tape, e := ranges.ReadTape(p, stream[:length])
			errno(t, "ReadTape of more", e, api.OK)
			if !sameTapes(tape, whole) {
				t.Errorf("%v: what lies behind the tape is looked at", p)
			}
		}
		for _, length := range []int{0, 1, 64, need - 65, need - 64, need - 1} {
			tape, e := ranges.ReadTape(p, stream[:length])
			errno(t, "ReadTape of too few", e, api.ErrShort)
			if !sameTapes(tape, ranges.Tape{}) {
				t.Errorf("%v: a tape beside an error", p)
			}
		}
		_, e = ranges.ReadTape(p, nil)
		errno(t, "ReadTape of nothing", e, api.ErrShort)
	}
}

func TestP1301Params(t *testing.T) {
	for _, p := range noParams() {
		for _, length := range []int{0, 1000, 1 << 18} {
			tape, e := ranges.ReadTape(p, make([]byte, length))
			errno(t, "ReadTape", e, api.ErrParams)
			if !sameTapes(tape, ranges.Tape{}) {
				t.Errorf("%v: a tape beside an error", p)
			}
		}
	}
}

func movesOver[P msm.Group[P]](t *testing.T, m *sample.Maker, kind sample.Kind[P], list []api.Params) {
	t.Helper()
	for _, p := range list {
		w, k, a := anyWorld(m, kind, p), anySecret(m, p), anyAsked(m, p)
		x := w.said(k, a)
		r, v, view, e := ranges.Begin(setOf(m, kind, w), p, openingsOf(m, k), tapeOf(m, k))
		errno(t, "Begin", e, api.OK)
		are(t, "Begin: commitments", kind, v, x.v...)
		isView(t, "Begin", kind, view, x, a, 1)
		view, e = r.Middle(m.Limbs(a.y), m.Limbs(a.z))
		errno(t, "Middle", e, api.OK)
		isView(t, "Middle", kind, view, x, a, 2)
		view, e = r.Finish(m.Limbs(a.x))
		errno(t, "Finish", e, api.OK)
		isView(t, "Finish", kind, view, x, a, 3)
		errno(t, "Accepts", ranges.Accepts(setOf(m, kind, w), p, elements(m, kind, x.v), viewOf(m, kind, x, a)), api.OK)
		errno(t, "Accepts of what was answered", ranges.Accepts(setOf(m, kind, w), p, v, view), api.OK)
	}
}

func TestP1302P1310Moves(t *testing.T) {
	t.Parallel()
	m := sample.Maker(1302)
	for range 3 {
		movesOver(t, &m, sample.Lines(), allParams(32))
		movesOver(t, &m, sample.Frees(), allParams(16))
		movesOver(t, &m, sample.Boxes(), allParams(16))
	}
	movesOver(t, &m, sample.Lines(), []api.Params{{Bits: 64, Count: 1}, {Bits: 32, Count: 4}, {Bits: 64, Count: 16}})
	movesOver(t, &m, sample.Points(), allParams(4))
}

// The phases of a prover: what is not its turn, and what is 0, changes nothing.
func TestP1302Phases(t *testing.T) {
	m := sample.Maker(13020)
	kind, p := sample.Frees(), api.Params{Bits: 2, Count: 2}
	w, k, a := anyWorld(&m, kind, p), anySecret(&m, p), anyAsked(&m, p)
	x := w.said(k, a)
	r, _, _, e := ranges.Begin(setOf(&m, kind, w), p, openingsOf(&m, k), tapeOf(&m, k))
	errno(t, "Begin", e, api.OK)
	y, z, ch := m.Limbs(a.y), m.Limbs(a.z), m.Limbs(a.x)
	middle := func(what string, y, z scalar.Scalar, want api.Errno) {
		t.Helper()
		view, e := r.Middle(y, z)
		noView(t, what, view, e, want)
	}
	finish := func(what string, x scalar.Scalar, want api.Errno) {
		t.Helper()
		view, e := r.Finish(x)
		noView(t, what, view, e, want)
	}
	for _, zero := range zeros() {
		finish("Finish ahead of Middle", ch, api.ErrPhase)
		finish("Finish(0) ahead of Middle", zero, api.ErrPhase)
		middle("Middle(0, z)", zero, z, api.ErrZero)
		middle("Middle(y, 0)", y, zero, api.ErrZero)
		middle("Middle(0, 0)", zero, zero, api.ErrZero)
	}
	view, e := r.Middle(y, z)
	errno(t, "Middle", e, api.OK)
	isView(t, "Middle", kind, view, x, a, 2)
	for _, zero := range zeros() {
		middle("a second Middle", y, z, api.ErrPhase)
		middle("a second Middle(0, 0)", zero, zero, api.ErrPhase)
		middle("another Middle", z, y, api.ErrPhase)
		finish("Finish(0)", zero, api.ErrZero)
	}
	view, e = r.Finish(ch)
	errno(t, "Finish", e, api.OK)
	isView(t, "Finish", kind, view, x, a, 3)
	for _, zero := range zeros() {
		middle("Middle behind Finish", y, z, api.ErrPhase)
		middle("Middle(0, 0) behind Finish", zero, zero, api.ErrPhase)
		finish("a second Finish", ch, api.ErrPhase)
		finish("a second Finish(0)", zero, api.ErrPhase)
	}
}

// A Prover that Begin didn't make counts as nil.
func TestP1302NoProver(t *testing.T) {
	for _, r := range []*ranges.Prover[msm.Line]{nil, {}, new(ranges.Prover[msm.Line])} {
		for _, k := range append(zeros(), num(1)) {
			view, e := r.Middle(k, k)
			noView(t, "Middle", view, e, api.ErrArg)
			view, e = r.Finish(k)
			noView(t, "Finish", view, e, api.ErrArg)
		}
	}
}

// Provers that are asked in turn don't meet.
func TestP1302ProversAreApart(t *testing.T) {
	m := sample.Maker(13021)
	kind, p := sample.Frees(), api.Params{Bits: 4, Count: 2}
	w := anyWorld(&m, kind, p)
	g := setOf(&m, kind, w)
	var provers []*ranges.Prover[msm.Free]
	var ks []secret
	var as []asked
	for range 3 {
		ks, as = append(ks, anySecret(&m, p)), append(as, anyAsked(&m, p))
	}
	for _, k := range ks {
		r, _, _, _ := ranges.Begin(g, p, openingsOf(&m, k), tapeOf(&m, k))
		provers = append(provers, r)
	}
	for i, r := range provers {
		view, e := r.Middle(m.Limbs(as[i].y), m.Limbs(as[i].z))
		errno(t, "Middle", e, api.OK)
		isView(t, "Middle", kind, view, w.said(ks[i], as[i]), as[i], 2)
	}
	for i, r := range provers {
		view, e := r.Finish(m.Limbs(as[i].x))
		errno(t, "Finish", e, api.OK)
		isView(t, "Finish", kind, view, w.said(ks[i], as[i]), as[i], 3)
	}
}

func TestP1304Delta(t *testing.T) {
	m := sample.Maker(1304)
	for _, p := range allParams(api.MaxSize) {
		w := world{p: p}
		pairs := [][2]*big.Int{{new(big.Int), new(big.Int)}, {new(big.Int), m.Number()}, {m.Number(), new(big.Int)}, {big.NewInt(1), big.NewInt(1)}, {m.Number(), m.Number()}, {m.Number(), m.Number()}}
		for _, pair := range pairs {
			d, e := ranges.Delta(p, m.Limbs(pair[0]), m.Limbs(pair[1]))
			errno(t, "Delta", e, api.OK)
			told(t, "Delta", []scalar.Scalar{d}, w.delta(pair[0], pair[1]))
		}
	}
	for _, p := range noParams() {
		d, e := ranges.Delta(p, num(2), num(3))
		errno(t, "Delta", e, api.ErrParams)
		told(t, "Delta beside an error", []scalar.Scalar{d}, new(big.Int))
	}
}

func statementsOver[P msm.Group[P]](t *testing.T, m *sample.Maker, kind sample.Kind[P], list []api.Params) {
	t.Helper()
	for _, p := range list {
		w, a := anyWorld(m, kind, p), anyAsked(m, p)
		x := anySent(m, kind, p)
		view := viewOf(m, kind, x, a)
		switch m.Next() % 3 { // L and R are not looked at
		case 0:
			view.L, view.R = nil, nil
		case 1:
			view.L, view.R = view.L[1:], append(view.R, num(4))
		}
		q, s, h, e := ranges.Statement(setOf(m, kind, w), p, view, m.Limbs(a.w))
		errno(t, "Statement", e, api.OK)
		are(t, "Statement: q and s", kind, []P{q, s}, w.q.Times(a.w), w.image(x, a).Plus(w.q.Times(times(a.w, x.that))))
		are(t, "Statement: h", kind, h, w.turned(a.y)...)
	}
}

func TestP1305Statements(t *testing.T) {
	m := sample.Maker(1305)
	for range 4 {
		statementsOver(t, &m, sample.Lines(), allParams(32))
		statementsOver(t, &m, sample.Frees(), allParams(16))
		statementsOver(t, &m, sample.Boxes(), allParams(16))
	}
	statementsOver(t, &m, sample.Lines(), []api.Params{{Bits: 64, Count: 2}, {Bits: 64, Count: 16}})
	statementsOver(t, &m, sample.Points(), allParams(4))
}
