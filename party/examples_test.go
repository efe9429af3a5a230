package party_test

// The examples of the chapter, by their numbers.

import (
	"slices"
	"testing"

	"veil/api"
	"veil/gens"
	"veil/msm"
	"veil/party"
	"veil/ranges"
	"veil/transcript"
)

// exampleSet: B = 1, Blind = 2, G_i = 10 + i, H_i = 20 + i.
func exampleSet() gens.Set[msm.Line] {
	return gens.Set[msm.Line]{B: line(1), Blind: line(2), Q: line(3), G: []msm.Line{line(10), line(11)}, H: []msm.Line{line(20), line(21)}}
}

func exampleParams() api.Params { return api.Params{Bits: 1, Count: 2} }

func exampleOpening() ranges.Opening { return ranges.Opening{V: 1, Blind: num(4)} }

func exampleTape() ranges.Tape {
	return ranges.Tape{Alpha: num(1), Rho: num(1), SL: nums(1), SR: nums(1)}
}

func exampleJoin(t *testing.T, place int) (*party.Party[msm.Line], party.Bit[msm.Line]) {
	t.Helper()
	q, b, e := party.Join(exampleSet(), exampleParams(), place, exampleOpening(), exampleTape())
	errno(t, "Join", e, api.OK)
	return q, b
}

func TestExample1Join(t *testing.T) {
	long := exampleTape()
	long.SL = nums(1, 2)
	for _, c := range []struct {
		p     api.Params
		place int
		v     uint64
		tape  ranges.Tape
		want  api.Errno
	}{
		{exampleParams(), 2, 1, exampleTape(), api.ErrPlace},
		{api.Params{Bits: 3, Count: 2}, 1, 1, exampleTape(), api.ErrParams},
		{api.Params{Bits: 3, Count: 2}, 2, 1, exampleTape(), api.ErrParams},
		{exampleParams(), 1, 2, exampleTape(), api.ErrValue},
		{exampleParams(), 1, 1, long, api.ErrLength},
	} {
		q, b, e := party.Join(exampleSet(), c.p, c.place, ranges.Opening{V: c.v, Blind: num(4)}, c.tape)
		noBit(t, "Join", q, b, e, c.want)
	}
}

func TestExamples2And3And4Messages(t *testing.T) {
	q, b := exampleJoin(t, 1)
	if b != (party.Bit[msm.Line]{Place: 1, V: line(9), A: line(13), S: line(34)}) {
		t.Errorf("Bit: %v", b)
	}
	m, e := q.Poly(num(3), num(2))
	if e != api.OK || m != (party.Poly[msm.Line]{Place: 1, T1: line(11), T2: line(3)}) {
		t.Errorf("Poly: %v, %d", m, e)
	}
	s, e := q.Share(num(2))
	if e != api.OK || s.Place != 1 || !slices.Equal(s.L, nums(1)) || !slices.Equal(s.R, nums(20)) || s.That != num(20) || s.TauX != num(32) || s.Mu != num(3) {
		t.Errorf("Share: %v, %d", s, e)
	}
	errno(t, "Right", party.Right(exampleSet(), exampleParams(), b, m, s, num(3), num(2), num(2)), api.OK)
	// 84 on both sides: with T1 = 12 they are 84 and 86.
	m.T1 = line(12)
	errno(t, "Right", party.Right(exampleSet(), exampleParams(), b, m, s, num(3), num(2), num(2)), api.ErrFirst)
}

func TestExample5Phases(t *testing.T) {
	q, _ := exampleJoin(t, 1)
	_, e := q.Share(num(2))
	errno(t, "Share ahead of Poly", e, api.ErrPhase)
	_, e = q.Poly(num(3), num(0))
	errno(t, "Poly with z = 0", e, api.ErrZero)
	_, e = q.Poly(num(3), num(2))
	errno(t, "Poly with z = 2", e, api.OK)
	_, e = q.Poly(num(3), num(2))
	errno(t, "Poly a second time", e, api.ErrPhase)
}

func TestExamples6And7Dealer(t *testing.T) {
	script := func() *transcript.Script { return transcript.Given(nums(3, 2, 2, 5, 7, 11)...) }
	o := script()
	d, e := party.NewDealer(exampleSet(), exampleParams(), o)
	errno(t, "NewDealer", e, api.OK)
	q0, b0 := exampleJoin(t, 0)
	q1, b1 := exampleJoin(t, 1)
	_, _, e = d.Bits(b0, b0)
	errno(t, "Bits both from place 0", e, api.ErrPlace)
	_, _, e = d.Bits(b0)
	errno(t, "Bits of one", e, api.ErrLength)
	heard(t, "Bits with an error", o.Heard(), nil)
	y, z, e := d.Bits(b1, b0)
	if e != api.OK || y != num(3) || z != num(2) {
		t.Errorf("Bits: %v, %v, %d", y, z, e)
	}
	m0, _ := q0.Poly(y, z)
	m1, _ := q1.Poly(y, z)
	x, e := d.Polys(m0, m1)
	errno(t, "Polys", e, api.OK)
	s0, _ := q0.Share(x)
	s1, _ := q1.Share(x)
	wrong := func(s0, s1 party.Share, want ...int) {
		t.Helper()
		v, proof, places, e := d.Shares(s0, s1)
		noProof(t, "Shares", v, proof, e, api.ErrShares)
		if !slices.Equal(places, want) {
			t.Errorf("Shares: the places %v, want %v", places, want)
		}
	}
	bad := s1
	bad.Mu = bad.Mu.Add(num(1))
	wrong(s0, bad, 1)
	more, fewer := s0, s1
	more.TauX, fewer.TauX = more.TauX.Add(num(1)), fewer.TauX.Sub(num(1))
	wrong(more, fewer, 0, 1)
	v, proof, places, e := d.Shares(s0, s1)
	if e != api.OK || len(places) != 0 {
		t.Errorf("Shares: %v, %d", places, e)
	}
	accepted(t, "Shares", exampleSet(), exampleParams(), v, proof, func() transcript.Oracle { return script() })
}

// The document's example 9 of the whole: two parties with the values 3 and 5 of 4 bits.
func TestExampleOfTheWhole(t *testing.T) {
	p := api.Params{Bits: 4, Count: 2}
	g, _ := gens.Standard(p.Size())
	vs := []ranges.Opening{{V: 3, Blind: num(7)}, {V: 5, Blind: num(8)}}
	tapes := []ranges.Tape{tapeOfLength(4, 4), tapeOfLength(4, 4)}
	v, x, e := party.Together(g, p, vs, tapes, transcript.New("nine"))
	errno(t, "Together", e, api.OK)
	accepted(t, "Together", g, p, v, x, func() transcript.Oracle { return transcript.New("nine") })
	v[0], v[1] = v[1], v[0]
	if yes, _ := ranges.Once(g, p, v, x, transcript.New("nine")); yes {
		t.Error("the proof is accepted for the commitments the other way round")
	}
}
