package gadget

import (
	"slices"

	"veil/api"
	"veil/circuit"
	"veil/scalar"
)

// numbers: what a desk does about its wires' numbers. Where the values are known, known fills it, where they are not, unknown.
type numbers struct {
	of    func(s *circuit.System, x circuit.Lin) (scalar.Scalar, bool) // of a sum
	gate  func(left, right scalar.Scalar)                              // of one more gate
	all   func() (circuit.Assignment, bool)
	again func() numbers // the same, which go on alone from here
}

// entries: the assignment of a system without other gates than those by which the values enter.
func entries(values []scalar.Scalar) circuit.Assignment {
	var a circuit.Assignment
	for _, v := range values {
		a.V = append(a.V, v.Least())
		addGate(&a, v.Least(), scalar.Scalar{})
	}
	return a
}

// addGate: every gate of a desk multiplies, whatever is required of it.
func addGate(a *circuit.Assignment, left, right scalar.Scalar) {
	a.L = append(a.L, left)
	a.R = append(a.R, right)
	a.O = append(a.O, left.Mul(right))
}

// copied: an assignment that shares no memory with a.
func copied(a circuit.Assignment) circuit.Assignment {
	return circuit.Assignment{L: slices.Clone(a.L), R: slices.Clone(a.R), O: slices.Clone(a.O), V: slices.Clone(a.V)}
}

// known: the numbers are those of an assignment, which nobody else holds.
func known(own circuit.Assignment) numbers {
	return numbers{
		of: func(s *circuit.System, x circuit.Lin) (scalar.Scalar, bool) {
			n, e := s.Eval(own, x)
			return n, e == api.OK
		},
		gate:  func(left, right scalar.Scalar) { addGate(&own, left, right) },
		all:   func() (circuit.Assignment, bool) { return copied(own), true },
		again: func() numbers { return known(copied(own)) },
	}
}

// unknown: there are no numbers.
func unknown() numbers {
	return numbers{
		of:    func(*circuit.System, circuit.Lin) (scalar.Scalar, bool) { return scalar.Scalar{}, false },
		gate:  func(left, right scalar.Scalar) {},
		all:   func() (circuit.Assignment, bool) { return circuit.Assignment{}, false },
		again: unknown,
	}
}
