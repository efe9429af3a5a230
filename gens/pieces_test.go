package gens_test

import (
	"math"
	"testing"

	"veil/api"
	"veil/gens"
	"veil/group"
	"veil/msm"
	"veil/sample"
)

// from: the generators of a set by kind and number, those of G and H counted from a number on.
func from[P any](s gens.Set[P], first int) func(kind, i int) P {
	return func(kind, i int) P {
		switch kind {
		case api.GenBase:
			return s.B
		case api.GenBlind:
			return s.Blind
		case api.GenInner:
			return s.Q
		case api.GenLeft:
			return s.G[first+i]
		}
		return s.H[first+i]
	}
}

// everyPart: all parts of a set, those that it has and those that it has not.
func everyPart[P msm.Group[P]](t *testing.T, s gens.Set[P]) {
	t.Helper()
	left, right := len(s.G), len(s.H)
	for first := -2; first <= max(left, right)+2; first++ {
		for n := -2; n <= max(left, right)+2; n++ {
			p, e := s.Part(first, n)
			switch {
			case first < 0 || n < 0:
				nothing(t, "Part", p, e, api.ErrArg)
			case first+n > left || first+n > right:
				nothing(t, "Part", p, e, api.ErrLength)
			case e != api.OK:
				t.Errorf("Part(%d, %d) of %d and %d: %d", first, n, left, right, e)
			default:
				isSet(t, "Part", p, n, from(s, first))
			}
		}
	}
}

func partsOver[P msm.Group[P]](t *testing.T, kind sample.Kind[P]) {
	t.Helper()
	m := sample.Maker(904)
	for left := range 5 {
		for right := range 5 {
			everyPart(t, byHand(&m, kind, left, right).set)
		}
	}
}

func TestP904Part(t *testing.T) {
	partsOver(t, sample.Lines())
	partsOver(t, sample.Frees())
	partsOver(t, sample.Boxes())
	standard, _ := gens.Standard(3)
	everyPart(t, standard)
	everyPart(t, gens.Set[group.Point]{})
}

// from + n is more than an int holds.
func TestP904PartOfVeryMany(t *testing.T) {
	s, _ := gens.Lines(nil, 4)
	for _, c := range []struct {
		first, n int
		want     api.Errno
	}{
		{math.MaxInt, math.MaxInt, api.ErrLength},
		{math.MaxInt, 0, api.ErrLength},
		{math.MaxInt, 1, api.ErrLength},
		{0, math.MaxInt, api.ErrLength},
		{1, math.MaxInt, api.ErrLength},
		{4, math.MaxInt, api.ErrLength},
		{math.MaxInt - 3, 4, api.ErrLength},
		{math.MaxInt/2 + 1, math.MaxInt/2 + 1, api.ErrLength},
		{math.MinInt, math.MaxInt, api.ErrArg},
		{math.MaxInt, math.MinInt, api.ErrArg},
		{math.MinInt, math.MinInt, api.ErrArg},
		{math.MinInt, 0, api.ErrArg},
		{0, math.MinInt, api.ErrArg},
		{5, -1, api.ErrArg},
		{-1, 5, api.ErrArg},
		{-1, 2, api.ErrArg},
		{2, -1, api.ErrArg},
	} {
		p, e := s.Part(c.first, c.n)
		nothing(t, "Part", p, e, c.want)
	}
}

func TestP904PartOfGreatSets(t *testing.T) {
	s, _ := gens.Lines([]byte("great"), api.MaxSize)
	for _, c := range [][2]int{{0, 1024}, {1023, 1}, {1024, 0}, {512, 512}, {0, 512}, {100, 64}} {
		p, e := s.Part(c[0], c[1])
		if e != api.OK {
			t.Errorf("Part(%d, %d): %d", c[0], c[1], e)
		}
		isSet(t, "Part", p, c[1], from(s, c[0]))
	}
}

// A part of a part, and parts of sets that have more than any that gens makes.
func TestP904PartsOfParts(t *testing.T) {
	m := sample.Maker(9040)
	s := byHand(&m, sample.Lines(), 3000, 2500).set
	p, _ := s.Part(400, 2100)
	isSet(t, "Part", p, 2100, from(s, 400))
	q, e := p.Part(2000, 100)
	if e != api.OK {
		t.Fatalf("Part of a part: %d", e)
	}
	isSet(t, "Part of a part", q, 100, from(s, 2400))
}

func everyAll[P msm.Group[P]](t *testing.T, kind sample.Kind[P]) {
	t.Helper()
	m := sample.Maker(90400)
	for _, c := range [][2]int{{0, 0}, {1, 0}, {0, 1}, {1, 1}, {3, 1}, {2, 5}, {7, 7}} {
		s := byHand(&m, kind, c[0], c[1])
		want := append([]numbers{s.b, s.blind, s.q}, append(s.g, s.h...)...)
		got := gens.All(s.set)
		if len(got) != len(want) {
			t.Fatalf("All of %v, over %s: %d elements", c, kind.Name, len(got))
		}
		for i := range got {
			s.is(t, "All", got[i], want[i])
		}
	}
}

func TestP904All(t *testing.T) {
	everyAll(t, sample.Lines())
	everyAll(t, sample.Frees())
	everyAll(t, sample.Boxes())
	everyAll(t, sample.Points())
}

// All and Part ask nothing of the elements: they may be of any type.
func TestP904ElementsOfAnyType(t *testing.T) {
	s := gens.Set[any]{B: 1, Blind: "two", Q: nil, G: []any{4.5, []int{5}}, H: []any{map[int]int{}, 7, 8}}
	if all := gens.All(s); len(all) != 8 || all[0] != 1 || all[1] != "two" || all[2] != nil || all[3] != 4.5 || all[6] != 7 || all[7] != 8 {
		t.Errorf("All = %v", all)
	}
	if p, e := s.Part(1, 1); e != api.OK || p.B != 1 || p.Blind != "two" || len(p.G) != 1 || len(p.H) != 1 || p.H[0] != 7 {
		t.Errorf("Part = %v, %d", p, e)
	}
}
