package witness_test

// The examples of the chapter, by their numbers.

import (
	"slices"
	"testing"

	"veil/api"
	"veil/arith"
	"veil/circuit"
	"veil/gens"
	"veil/msm"
	"veil/scalar"
	"veil/tree"
	"veil/witness"
)

func TestExample1Leaves(t *testing.T) {
	one, _ := circuit.New(1)
	more := one.Clone()
	v := circuit.Of(circuit.Wire{Kind: api.WireValue})
	more.Multiply(v, v)
	none, _ := circuit.New(0)
	for _, c := range []struct {
		s    *circuit.System
		want int
	}{{one, 24}, {more, 384}, {none, 12}, {nil, 0}} {
		if got := witness.Leaves(c.s); got != c.want {
			t.Errorf("Leaves = %d, want %d", got, c.want)
		}
	}
}

// example: the system of one value, its prover, and what it is asked.
type example struct {
	g gens.Set[msm.Free]
	s *circuit.System
	a circuit.Assignment
	c tree.Challenges
}

func newExample() example {
	g, _ := gens.Basis(1)
	s, _ := circuit.New(1)
	return example{
		g: g, s: s, a: circuit.Assignment{L: nums(5), R: nums(0), O: nums(0), V: nums(5)},
		c: tree.Challenges{Ys: nums(2), Zs: nums(1, 2), Xs: nums(1, 2, 3, 4, 5, 6), Ws: nums(1, 2), Us: nums(1, 2, 3, 4)},
	}
}

func (x example) grow() ([]msm.Free, witness.Tree[msm.Free], api.Errno) {
	tape := arith.Tape{Alpha: num(3), Beta: num(4), Rho: num(5), Tau1: num(7), Tau3: num(9), Tau4: num(1), Tau5: num(0), Tau6: num(2), SL: nums(11), SR: nums(13)}
	return witness.Grow(x.g, x.s, x.a, nums(7), tape, x.c)
}

func TestExample2Extract(t *testing.T) {
	x := newExample()
	v, grown, e := x.grow()
	errno(t, "Grow", e, api.OK)
	errno(t, "Check", witness.Check(x.g, x.s, v, grown), api.OK)
	o, e := witness.Extract(x.g, x.s, v, grown)
	same := func(a, b []scalar.Scalar) bool { return slices.Equal(a, b) }
	if e != api.OK || len(o.Relation) != 0 || !same(o.Assignment.L, nums(5)) || !same(o.Assignment.R, nums(0)) || !same(o.Assignment.O, nums(0)) || !same(o.Assignment.V, nums(5)) || !same(o.Blinds, nums(7)) {
		t.Errorf("Extract: %v, %d", o, e)
	}
}

func TestExample3Wrong(t *testing.T) {
	x := newExample()
	x.a.V = nums(6)
	_, _, e := x.grow()
	errno(t, "V = [6]", e, api.ErrRequire)
	x = newExample()
	x.a.R, x.a.O = nums(1), nums(0)
	_, _, e = x.grow()
	errno(t, "R = [1], O = [0]", e, api.ErrGate)
	x = newExample()
	x.c.Xs = nums(1, 2, 3, 4, 5, 5)
	_, _, e = x.grow()
	errno(t, "Xs [1 2 3 4 5 5]", e, api.ErrArity)

	x = newExample()
	v, grown, e := x.grow()
	errno(t, "Grow", e, api.OK)
	for i := range 2 {
		for j := range 6 {
			taux := &grown.Ys[0].Zs[i].Xs[j].TauX
			*taux = taux.Add(num(1))
			checks(t, "one TauX turned", x.g, x.s, v, grown, api.ErrLeaf)
			*taux = taux.Sub(num(1))
		}
	}
	grown.Ys[0].Zs[1].Xs[5].X = num(5)
	checks(t, "Xs [1 2 3 4 5 5]", x.g, x.s, v, grown, api.ErrArity)
}
