package witness_test

// P2201: how many leaves a tree has.

import (
	"testing"

	"veil/api"
	"veil/arith"
	"veil/circuit"
	"veil/gens"
	"veil/msm"
	"veil/sample"
	"veil/scalar"
	"veil/tree"
	"veil/witness"
)

// bare: a system of so many values, gates and requirements, those without terms among them.
func bare(t *testing.T, values, gates, requires int) *circuit.System {
	t.Helper()
	s, e := circuit.New(values)
	for e == api.OK && s.Gates() < gates {
		_, _, _, e = s.Gate()
	}
	for e == api.OK && s.Requires() < requires {
		e = s.Require(nil)
	}
	errno(t, "a system", e, api.OK)
	return s
}

func TestP2201Leaves(t *testing.T) {
	for _, gates := range []int{0, 1, 2, 3, 4, 5, 7, 8, 9, 15, 16, 17, 31, 32, 33, 100, 512, 513, 1023, 1024} {
		for _, requires := range []int{0, 1, 2, 9, 10, 84, 85, 681, 682, 4095, 4096} {
			for _, values := range []int{0, 1, 16} {
				if values > gates || values > requires {
					continue
				}
				want := system{gates: gates, requires: make([][]term, requires)}.leaves()
				if got := witness.Leaves(bare(t, values, gates, requires)); got != want {
					t.Errorf("Leaves of %d gates, %d requirements = %d, want %d", gates, requires, got, want)
				}
			}
		}
	}
}

// Systems that nobody made count as nil.
func TestP2201NoSystem(t *testing.T) {
	for _, s := range []*circuit.System{nil, {}} {
		if got := witness.Leaves(s); got != 0 {
			t.Errorf("Leaves = %d, want 0", got)
		}
	}
}

// It hangs on nothing but how many gates and requirements there are: neither on values nor on terms, nor on how the system came.
func TestP2201OtherSystems(t *testing.T) {
	s, _ := circuit.New(1)
	v := circuit.Of(circuit.Wire{Kind: api.WireValue})
	s.Multiply(v, v)
	other, _ := circuit.New(2)
	other.Require(circuit.Const(num(7)))
	decoded, _ := circuit.Decode(s.Encode())
	for _, s := range []*circuit.System{s, other, decoded, s.Clone(), bare(t, 0, 2, 3)} {
		if got := witness.Leaves(s); got != 384 {
			t.Errorf("Leaves = %d, want 384", got)
		}
	}
}

// leaves: of a node.
func leaves[P any](n tree.Node[P]) int {
	if len(n.Kids) == 0 {
		return 1
	}
	count := 0
	for _, kid := range n.Kids {
		count += leaves(kid.Node)
	}
	return count
}

func treeLeaves[P any](x witness.Tree[P]) int {
	count := 0
	for _, y := range x.Ys {
		for _, z := range y.Zs {
			for _, x := range z.Xs {
				for _, w := range x.Ws {
					count += leaves(w.Node)
				}
			}
		}
	}
	return count
}

// A grown tree has as many leaves.
func TestP2201LeavesOfATree(t *testing.T) {
	m := sample.Maker(2201)
	for _, h := range append(append(tiny(), small()...), append(middle(), shape{0, 5, 1}, shape{0, 16, 0})...) {
		s, k := anyCase(&m, h)
		given := systemOf(&m, s)
		g, _ := gens.Lines([]byte("leaves"), s.size())
		_, x, e := witness.Grow(g, given, assignmentOf(&m, k.wired), limbs(&m, k.blinds), tapeOf(&m, k), easy(given))
		errno(t, "Grow", e, api.OK)
		if got := treeLeaves(x); got != witness.Leaves(given) || got != s.leaves() {
			t.Errorf("%v: %d leaves, want %d, told %d", h, got, s.leaves(), witness.Leaves(given))
		}
	}
}

// The greatest systems that have trees (no system has just MaxLeaves), and the next ones: too many leaves come ahead of all other faults but that there is no system.
func TestP2201TooMany(t *testing.T) {
	for _, c := range []struct {
		gates, requires int
		e               api.Errno
	}{
		{0, 4096, api.ErrLength}, {1, 4096, api.ErrLength}, {2, 681, api.ErrLength}, {2, 682, api.ErrArity},
		{3, 84, api.ErrLength}, {3, 85, api.ErrArity}, {4, 84, api.ErrLength}, {4, 85, api.ErrArity},
		{5, 9, api.ErrLength}, {5, 10, api.ErrArity}, {8, 9, api.ErrLength}, {8, 10, api.ErrArity},
		{9, 0, api.ErrLength}, {9, 1, api.ErrArity}, {16, 0, api.ErrLength}, {16, 1, api.ErrArity},
		{17, 0, api.ErrArity}, {1024, 0, api.ErrArity}, {1024, 4096, api.ErrArity},
	} {
		s := bare(t, 0, c.gates, c.requires)
		if many := witness.Leaves(s) > api.MaxLeaves; many != (c.e == api.ErrArity) || witness.Leaves(s) == api.MaxLeaves {
			t.Errorf("%d gates, %d requirements: %d leaves", c.gates, c.requires, witness.Leaves(s))
		}
		var none gens.Set[msm.Line]
		errno(t, "Check", witness.Check(none, s, nil, witness.Tree[msm.Line]{}), c.e)
		_, e := witness.Extract(none, s, nil, witness.Tree[msm.Line]{})
		errno(t, "Extract", e, c.e)
		_, _, e = witness.Grow(none, s, circuit.Assignment{}, nil, arith.Tape{}, tree.Challenges{})
		errno(t, "Grow", e, c.e)
	}
}

// The same with all else right: the one is grown, or asked for its branches, the other one is not.
func TestP2201TooManyThoughAllIsRight(t *testing.T) {
	for _, c := range []struct {
		gates, requires int
		check, grow     api.Errno
	}{{2, 682, api.ErrArity, api.ErrArity}, {4, 85, api.ErrArity, api.ErrArity}, {8, 10, api.ErrArity, api.ErrArity}, {16, 1, api.ErrArity, api.ErrArity}, {4, 4, api.ErrArity, api.OK}} {
		s := bare(t, 0, c.gates, c.requires)
		g, _ := gens.Lines(nil, 16)
		list := make([]scalar.Scalar, c.gates)
		_, _, e := witness.Grow(g, s, circuit.Assignment{L: list, R: list, O: list}, nil, arith.Tape{SL: list, SR: list}, easy(s))
		errno(t, "Grow", e, c.grow)
		errno(t, "Check", witness.Check(g, s, nil, witness.Tree[msm.Line]{}), c.check)
	}
}
