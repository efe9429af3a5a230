package witness

import (
	"veil/algebra"
	"veil/api"
	"veil/circuit"
	"veil/scalar"
)

// briefOf: a system with the same gates and values that is flattened, at a z that is not 0, to the same: what the requirements of s say together there, but those that each system has, one alone says. For a system is flattened anew in each conversation behind a z, and it may have thousands of requirements.
func briefOf(s *circuit.System, z scalar.Scalar, flat circuit.Weights) *circuit.System {
	brief, _ := circuit.New(s.Values())
	for brief.Gates() < s.Gates() {
		_, _, _, _ = brief.Gate()
	}
	there, _ := brief.Flatten(z)
	powers, _ := algebra.Powers(z, brief.Requires()+2)
	weight := powers[brief.Requires()+1] // that the next requirement has at z
	_ = brief.Require(sumOf(flat).Sub(sumOf(there)).Times(weight.Invert()))
	return brief
}

// sumOf: weights as one sum of wires.
func sumOf(w circuit.Weights) circuit.Lin {
	sum := circuit.Const(w.C.Neg())
	add := func(kind int, list []scalar.Scalar) {
		for i, k := range list {
			sum = append(sum, circuit.Term{Wire: circuit.Wire{Kind: kind, I: i}, K: k})
		}
	}
	add(api.WireLeft, w.L)
	add(api.WireRight, w.R)
	add(api.WireOut, w.O)
	add(api.WireValue, each(w.V, scalar.Scalar.Neg))
	return sum
}

// moment: where a conversation is behind a y and a z.
type moment struct {
	y, z   scalar.Scalar
	brief  *circuit.System
	values []scalar.Scalar // wV
	fixed  scalar.Scalar   // Delta + C
}

// momentOf: for a y and a z that are not 0.
func momentOf(s *circuit.System, y, z scalar.Scalar) moment {
	flat, _ := s.Flatten(z)
	products, _ := algebra.Each(flat.R, flat.L)
	delta := algebra.Eval(products, y.Invert())
	return moment{y: y, z: z, brief: briefOf(s, z, flat), values: flat.V, fixed: delta.Add(flat.C)}
}
