package gens_test

// The examples of the chapter, by their numbers.

import (
	"encoding/hex"
	"slices"
	"testing"

	"veil/api"
	"veil/gens"
	"veil/group"
	"veil/msm"
	"veil/scalar"
)

func TestExample1Points(t *testing.T) {
	if p, e := gens.Point(api.GenBase, 0); e != api.OK || !p.Same(group.Base()) {
		t.Errorf("Point(GenBase, 0) = %x, %d", p.Encode(), e)
	}
	for _, c := range [][2]int{{api.GenBase, 1}, {0, 0}, {6, 0}, {api.GenLeft, 1024}, {api.GenLeft, -1}} {
		if p, e := gens.Point(c[0], c[1]); e != api.ErrArg || p != (group.Point{}) {
			t.Errorf("Point(%d, %d): %d", c[0], c[1], e)
		}
	}
	if p, e := gens.Point(api.GenRight, 1023); e != api.OK || p.Same(group.Point{}) {
		t.Errorf("Point(GenRight, 1023): %d", e)
	}
}

func TestExample2Sizes(t *testing.T) {
	if s, e := gens.Standard(0); e != api.OK || len(s.G) != 0 || len(s.H) != 0 {
		t.Errorf("Standard(0): %d, %d of G, %d of H", e, len(s.G), len(s.H))
	}
	for _, n := range []int{1025, -1} {
		s, e := gens.Standard(n)
		nothing(t, "Standard", s, e, api.ErrArg)
	}
	s, e := gens.Basis(65)
	nothing(t, "Basis", s, e, api.ErrArg)
}

func TestExample3Encodings(t *testing.T) {
	s, _ := gens.Standard(1024)
	for _, c := range []struct {
		what string
		got  group.Point
		want string
	}{
		{"Blind", s.Blind, "9e51c62335c32fd416f6f69b0f258255f21bbeea5c5e623074fa7b74b46cf60f"},
		{"Q", s.Q, "4e02fa75a857c6ade8173c597b2ed15a80217ee40070fbbbba7fbd552777e45f"},
		{"G_0", s.G[0], "8ef2e38b9f51f318ef831b25887c8510e6532638b715afee96b5fb247d6bbd60"},
		{"H_0", s.H[0], "2c1c101580f354a8e11f7e237f7507d1aa561cbb844c96d089a20e78929dcf78"},
		{"G_1023", s.G[1023], "0af9571723b597c5dbcd1b3223c906e1e964a3d9a6fab19405ece886cc4c491a"},
	} {
		b := c.got.Encode()
		if got := hex.EncodeToString(b[:]); got != c.want {
			t.Errorf("%s: %s, want %s", c.what, got, c.want)
		}
	}
}

func TestExample4Basis(t *testing.T) {
	one, _ := gens.Basis(1)
	for place, a := range []msm.Free{one.B, one.Blind, one.Q, one.G[0], one.H[0]} {
		if !slices.Equal(a.K, append(make([]scalar.Scalar, place), scalar.Int(1))) {
			t.Errorf("Basis(1), place %d: %v", place, a.K)
		}
	}
	two, _ := gens.Basis(2)
	if !slices.Equal(two.H[1].K, append(make([]scalar.Scalar, 6), scalar.Int(1))) {
		t.Errorf("Basis(2): H_1 = %v", two.H[1].K)
	}
}

func TestExample5ARelation(t *testing.T) {
	s := gens.Set[msm.Line]{B: msm.Line{K: scalar.Int(1)}, Blind: msm.Line{K: scalar.Int(2)}}
	one, two := gens.Commit(s, scalar.Int(3), scalar.Int(1)), gens.Commit(s, scalar.Int(1), scalar.Int(2))
	if five := (msm.Line{K: scalar.Int(5)}); !one.Same(five) || !two.Same(five) {
		t.Errorf("%v, %v", one, two)
	}
}

func TestExample6Parts(t *testing.T) {
	s, _ := gens.Standard(3)
	p, e := s.Part(1, 2)
	if e != api.OK {
		t.Fatalf("Part(1, 2): %d", e)
	}
	isSet(t, "Part(1, 2)", p, 2, from(s, 1))
	p, e = s.Part(2, 2)
	nothing(t, "Part(2, 2)", p, e, api.ErrLength)
	if p, e = s.Part(0, 0); e != api.OK || len(p.G) != 0 || len(p.H) != 0 || !p.Q.Same(s.Q) {
		t.Errorf("Part(0, 0): %v, %d", p, e)
	}
	hand := gens.Set[msm.Line]{G: make([]msm.Line, 3), H: make([]msm.Line, 1)}
	q, e := hand.Part(0, 2)
	nothing(t, "Part(0, 2)", q, e, api.ErrLength)
}

func TestExample7Lists(t *testing.T) {
	s, _ := gens.Standard(2)
	blind := scalar.Int(1234567)
	want := s.H[0].Times(scalar.Int(5)).Add(s.Blind.Times(blind))
	if got, e := gens.CommitVectors(s, nil, []scalar.Scalar{scalar.Int(5)}, blind); e != api.OK || !got.Same(want) {
		t.Errorf("%x, %d", got.Encode(), e)
	}
	got, e := gens.CommitVectors(s, make([]scalar.Scalar, 3), nil, blind)
	refused(t, "three scalars in a", got, e)
}
