package gens_test

import (
	"math"
	"slices"
	"testing"

	"veil/api"
	"veil/gens"
	"veil/group"
)

// theres: every kind and number of which there is a generator.
func theres() [][2]int {
	list := [][2]int{{api.GenBase, 0}, {api.GenBlind, 0}, {api.GenInner, 0}}
	for i := range api.MaxSize {
		list = append(list, [2]int{api.GenLeft, i}, [2]int{api.GenRight, i})
	}
	return list
}

func TestP902Points(t *testing.T) {
	seen := map[api.Bytes32]int{}
	for _, c := range theres() {
		want := derived(c[0], c[1]).Encode()
		for range 2 {
			if p, e := gens.Point(c[0], c[1]); e != api.OK || p.Encode() != want {
				t.Errorf("Point(%d, %d) = %x, %d, want %x", c[0], c[1], p.Encode(), e, want)
			}
		}
		seen[want]++
	}
	if len(seen) != 3+2*api.MaxSize {
		t.Errorf("%d unlike generators", len(seen))
	}
}

// The insides of a generator must be right too: a sum with another element shows them.
func TestP902PointsGoOn(t *testing.T) {
	for _, c := range [][2]int{{api.GenBase, 0}, {api.GenBlind, 0}, {api.GenInner, 0}, {api.GenLeft, 5}, {api.GenRight, 1023}} {
		p, _ := gens.Point(c[0], c[1])
		other := derived(api.GenLeft, 7)
		if p.Add(other).Encode() != derived(c[0], c[1]).Add(other).Encode() {
			t.Errorf("Point(%d, %d) looks right, but with another added it is not", c[0], c[1])
		}
	}
}

// nones: kinds and numbers of which there is no generator.
func nones() [][2]int {
	var list [][2]int
	for _, kind := range []int{math.MinInt, -256, -1, 0, 6, 7, 255, 256, 257, 258, 259, 260, 261, 1<<32 + 1, 1<<32 + 4, math.MaxInt} {
		for _, i := range []int{math.MinInt, -1, 0, 1, 1023, math.MaxInt} {
			list = append(list, [2]int{kind, i})
		}
	}
	for _, kind := range []int{api.GenBase, api.GenBlind, api.GenInner} {
		for _, i := range []int{math.MinInt, math.MinInt + 1, -1, 1, 2, 1023, 1024, 1 << 32, math.MaxInt} {
			list = append(list, [2]int{kind, i})
		}
	}
	for _, kind := range []int{api.GenLeft, api.GenRight} {
		for _, i := range []int{math.MinInt, -1024, -1, 1024, 1025, 1 << 32, 1<<32 + 1, math.MaxInt} {
			list = append(list, [2]int{kind, i})
		}
	}
	return list
}

func TestP902NoSuchGenerator(t *testing.T) {
	for _, c := range nones() {
		for range 2 {
			if p, e := gens.Point(c[0], c[1]); e != api.ErrArg || p != (group.Point{}) {
				t.Errorf("Point(%d, %d) = %x, %d, want ErrArg alone", c[0], c[1], p.Encode(), e)
			}
		}
	}
	for _, kind := range []int{api.GenBase, api.GenBlind, api.GenInner, api.GenLeft, api.GenRight} {
		if p, e := gens.Point(kind, 0); e != api.OK || !p.Same(derived(kind, 0)) {
			t.Errorf("Point(%d, 0) behind refused ones: %x, %d", kind, p.Encode(), e)
		}
	}
}

func TestP903Standard(t *testing.T) {
	for _, n := range []int{3, 0, 1, 1024, 2, 64, 1023, 0, 1024, 5} {
		s, e := gens.Standard(n)
		if e != api.OK {
			t.Fatalf("Standard(%d): %d", n, e)
		}
		isSet(t, "Standard", s, n, func(kind, i int) group.Point {
			p, _ := gens.Point(kind, i)
			return p
		})
	}
}

func TestP903StandardIsDerived(t *testing.T) {
	s, _ := gens.Standard(20)
	isSet(t, "Standard", s, 20, derived)
}

// wrongSizes: those that no set has whose G are most.
func wrongSizes(most int) []int {
	return []int{math.MinInt, -1 << 32, -1024, -64, -1, most + 1, most + 2, 2 * most, 1 << 32, 1<<32 + 1, math.MaxInt}
}

func TestP903StandardOfWrongSizes(t *testing.T) {
	for _, n := range wrongSizes(api.MaxSize) {
		s, e := gens.Standard(n)
		nothing(t, "Standard", s, e, api.ErrArg)
	}
}

func TestP903GreaterSetsBeginWithLesserOnes(t *testing.T) {
	same := func(a, b group.Point) bool { return a.Encode() == b.Encode() }
	great, _ := gens.Standard(100)
	for _, n := range []int{0, 1, 2, 3, 50, 99, 100} {
		s, _ := gens.Standard(n)
		if !same(s.B, great.B) || !same(s.Blind, great.Blind) || !same(s.Q, great.Q) || !slices.EqualFunc(s.G, great.G[:n], same) || !slices.EqualFunc(s.H, great.H[:n], same) {
			t.Errorf("Standard(100) does not begin with Standard(%d)", n)
		}
	}
}
