package tree_test

// The examples of the chapter, by their numbers. (The fourth stands with the relations.)

import (
	"testing"

	"veil/api"
	"veil/gens"
	"veil/msm"
	"veil/ranges"
	"veil/tree"
)

func TestExample1Leaves(t *testing.T) {
	for p, want := range map[api.Params]int{
		{Bits: 1, Count: 1}: 18, {Bits: 2, Count: 1}: 144, {Bits: 1, Count: 2}: 192, {Bits: 4, Count: 1}: 1152,
		{Bits: 8, Count: 1}: 9216, {Bits: 3, Count: 1}: 0, {Bits: 16, Count: 1}: 73728,
	} {
		if got := tree.Leaves(p); got != want {
			t.Errorf("Leaves(%v) = %d, want %d", p, got, want)
		}
	}
	p := api.Params{Bits: 16, Count: 1}
	g, _ := gens.Basis(16)
	_, _, e := tree.Grow(g, p, make([]ranges.Opening, 1), ranges.Tape{SL: nums(make([]int64, 16)...), SR: nums(make([]int64, 16)...)}, small(p))
	errno(t, "Grow of 16 bits", e, api.ErrArity)
	errno(t, "Check of 16 bits", tree.Check(g, p, make([]msm.Free, 1), tree.Tree[msm.Free]{}), api.ErrArity)
}

func example(t *testing.T) (gens.Set[msm.Free], api.Params, []msm.Free, tree.Tree[msm.Free]) {
	t.Helper()
	p := api.Params{Bits: 1, Count: 1}
	g, _ := gens.Basis(1)
	tape := ranges.Tape{Alpha: num(3), Rho: num(5), Tau1: num(7), Tau2: num(9), SL: nums(11), SR: nums(13)}
	c := tree.Challenges{Ys: nums(2), Zs: nums(1, 2, 3), Xs: nums(1, 2, 3), Ws: nums(1, 2), Us: nums(1, 2, 3, 4)}
	v, x, e := tree.Grow(g, p, []ranges.Opening{{V: 1, Blind: num(4)}}, tape, c)
	errno(t, "Grow", e, api.OK)
	return g, p, v, x
}

func TestExample2Extract(t *testing.T) {
	g, p, v, x := example(t)
	errno(t, "Check", tree.Check(g, p, v, x), api.OK)
	o, e := tree.Extract(g, p, v, x)
	if e != api.OK || len(o.Relation) != 0 || len(o.Openings) != 1 || o.Openings[0] != (ranges.Opening{V: 1, Blind: num(4)}) {
		t.Errorf("Extract: %v, %d", o, e)
	}
}

func TestExample3Wrong(t *testing.T) {
	g, p, v, x := example(t)
	that := &x.Ys[0].Zs[2].Xs[1].That
	*that = that.Add(num(1))
	checks(t, "another that", g, p, v, x, api.ErrLeaf)

	g, p, v, x = example(t)
	x.Ys[0].Zs[2].Z = num(2)
	checks(t, "the same z twice", g, p, v, x, api.ErrArity)
	x.Ys[0].Zs[2].Z = num(3)
	x.Ys[0].Y = num(0)
	checks(t, "a y of 0", g, p, v, x, api.ErrArity)

	c := small(p)
	c.Zs = nums(1, 2, 2)
	_, _, e := tree.Grow(g, p, []ranges.Opening{{V: 1}}, ranges.Tape{SL: nums(1), SR: nums(1)}, c)
	errno(t, "Grow with the same z twice", e, api.ErrArity)
	c = small(p)
	c.Ys = nums(0)
	_, _, e = tree.Grow(g, p, []ranges.Opening{{V: 1}}, ranges.Tape{SL: nums(1), SR: nums(1)}, c)
	errno(t, "Grow with a y of 0", e, api.ErrArity)
}
