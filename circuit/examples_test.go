package circuit_test

// The examples of the chapter, by their numbers.

import (
	"bytes"
	"slices"
	"testing"

	"veil/api"
	"veil/circuit"
	"veil/scalar"
)

func TestExample1Sums(t *testing.T) {
	l0, v0 := left(0), value(0)
	is(t, "l0 + l0 - 5", circuit.Of(l0).Add(circuit.Of(l0)).Sub(circuit.Const(num(5))), term(-5, unit), term(2, l0))
	is(t, "l0 - l0", circuit.Of(l0).Sub(circuit.Of(l0)))
	is(t, "Const(0)", circuit.Const(num(0)))
	is(t, "Least", circuit.Lin{term(1, v0), term(2, l0), term(-1, v0)}.Least(), term(2, l0))
}

func TestExample2New(t *testing.T) {
	for _, n := range []int{17, -1} {
		if s, e := circuit.New(n); s != nil || e != api.ErrArg {
			t.Errorf("New(%d): %v, %d", n, s, e)
		}
	}
	p := newPair(t, 1)
	first, e := p.system.Requirement(0)
	errno(t, "Requirement(0)", e, api.OK)
	is(t, "requirement 0", first, term(1, left(0)), term(-1, value(0)))
	if p.system.Values() != 1 || p.system.Gates() != 1 || p.system.Requires() != 1 {
		t.Errorf("New(1) has something else")
	}
	errno(t, "Require(l1)", p.require(t, "Require(l1)", circuit.Of(left(1))), api.ErrWire)
	l, r, o, e := p.system.Gate()
	wantWires(t, "Gate", l, r, o, e, 1, api.OK)
}

// example: the system of the examples 3 to 5.
func example(t testing.TB) pair {
	t.Helper()
	p := newPair(t, 1)
	errno(t, "Multiply", p.multiply(t, "Multiply", circuit.Of(out(0)), circuit.Const(num(2))), api.OK)
	return p
}

func TestExample3Multiply(t *testing.T) {
	p := example(t)
	for i, want := range [][]circuit.Term{{term(1, left(0)), term(-1, value(0))}, {term(1, left(1)), term(-1, out(0))}, {term(-2, unit), term(1, right(1))}} {
		got, e := p.system.Requirement(i)
		errno(t, "Requirement", e, api.OK)
		is(t, "a requirement", got, want...)
	}
	errno(t, "Multiply(l2, 1)", p.multiply(t, "Multiply(l2, 1)", circuit.Of(left(2)), circuit.Const(num(1))), api.ErrWire)
	if p.system.Gates() != 2 || p.system.Requires() != 3 {
		t.Errorf("%d gates, %d requirements", p.system.Gates(), p.system.Requires())
	}
}

// good: an assignment that holds in the example.
func good() circuit.Assignment {
	return circuit.Assignment{L: nums(3, 12), R: nums(4, 2), O: nums(12, 24), V: nums(3)}
}

func TestExample4Holds(t *testing.T) {
	p := example(t)
	gate, requirement, short := good(), good(), good()
	gate.O = nums(12, 25)
	requirement.V = nums(4)
	short.L = nums(3)
	errno(t, "as it is", p.holds(t, "as it is", good()), api.OK)
	errno(t, "a gate", p.holds(t, "a gate", gate), api.ErrGate)
	errno(t, "a requirement", p.holds(t, "a requirement", requirement), api.ErrRequire)
	errno(t, "too short", p.holds(t, "too short", short), api.ErrLength)
}

func TestExample5Flatten(t *testing.T) {
	p := example(t)
	w := p.flatten(t, "Flatten(2)", num(2))
	if !sameWeights(w, circuit.Weights{L: nums(2, 4), R: nums(0, 8), O: nums(-4, 0), V: nums(2), C: num(16)}) {
		t.Errorf("Flatten(2): %v", w)
	}
	first, second := sides(w, good())
	if first != num(22) || second != num(22) {
		t.Errorf("the two sides: %v, %v", first, second)
	}
}

// scalarBytes: the 32 bytes of a small number.
func scalarBytes(n int64) []byte {
	b := num(n).Encode()
	return b[:]
}

func TestExample6Bytes(t *testing.T) {
	if b := newPair(t, 0).system.Encode(); !bytes.Equal(b, []byte{0, 0, 0}) {
		t.Errorf("New(0): %v", b)
	}
	want := slices.Concat([]byte{1, 1, 1, 2, 2, 0}, scalarBytes(1), []byte{5, 0}, scalarBytes(-1))
	if b := newPair(t, 1).system.Encode(); !bytes.Equal(b, want) || len(b) != 72 {
		t.Errorf("New(1): %v", b)
	}
	for _, b := range [][]byte{{0, 0}, {0, 0, 0, 0}, {17, 17, 0}, {1, 0, 0}, {1, 1, 0}, append([]byte{0, 0, 1, 1, 2, 0}, scalarBytes(1)...)} {
		errno(t, "no system", decode(t, "no system", b), api.ErrSystem)
	}
	errno(t, "a requirement without terms", decode(t, "a requirement without terms", []byte{0, 0, 1, 0}), api.OK)
}

func TestExample7Nothing(t *testing.T) {
	p := newPair(t, 1)
	before := len(p.system.Encode())
	errno(t, "Require(nil)", p.require(t, "Require(nil)", nil), api.OK)
	if len(p.system.Encode()) != before+1 {
		t.Errorf("it has %d bytes", len(p.system.Encode())-before)
	}
	for _, n := range []int64{0, 1, -7} {
		a := circuit.Assignment{L: nums(n), R: nums(2), O: nums(2 * n), V: nums(n)}
		errno(t, "it is met", p.holds(t, "it is met", a), api.OK)
	}
}

// sides: of Flatten: <L, l> + <R, r> + <O, o>, and <V, v> + C.
func sides(w circuit.Weights, a circuit.Assignment) (first, second scalar.Scalar) {
	inner := func(x, y []scalar.Scalar) scalar.Scalar {
		var sum scalar.Scalar
		for i := range x {
			sum = sum.Add(x[i].Mul(y[i]))
		}
		return sum
	}
	return inner(w.L, a.L).Add(inner(w.R, a.R)).Add(inner(w.O, a.O)), inner(w.V, a.V).Add(w.C)
}
