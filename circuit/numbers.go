package circuit

import (
	"veil/api"
	"veil/scalar"
)

// Assignment: what the gates' wires and the values are.
type Assignment struct {
	L, R, O, V []scalar.Scalar
}

// Weights: all requirements as one, by powers of z: L, R and O of the gates, V of the values, C.
type Weights struct {
	L, R, O, V []scalar.Scalar
	C          scalar.Scalar
}

// numbers: one for each wire: by its kind, in the place of its own number.
type numbers [kinds][]scalar.Scalar

// numbers: those of the wires under the assignment, the number 1 among them.
func (a Assignment) numbers() numbers {
	return numbers{kindOne: {scalar.Int(1)}, kindLeft: a.L, kindRight: a.R, kindOut: a.O, kindValue: a.V}
}

// fits: is there just one number for each wire that is there?
func (s *System) fits(n numbers) bool {
	for kind, count := range s.counts() {
		if len(n[kind]) != count {
			return false
		}
	}
	return true
}

// zeros: 0 for each wire that is there.
func (s *System) zeros() numbers {
	var n numbers
	for kind, count := range s.counts() {
		n[kind] = make([]scalar.Scalar, count)
	}
	return n
}

// sum: of terms whose wires are there.
func (n numbers) sum(x Lin) scalar.Scalar {
	var sum scalar.Scalar
	for _, t := range x {
		sum = sum.Add(t.K.Mul(n[t.Wire.Kind][t.Wire.I]))
	}
	return sum
}

// put: k times the factor of each term to the number of its wire, which is there.
func (n numbers) put(x Lin, k scalar.Scalar) {
	for _, t := range x {
		list := n[t.Wire.Kind]
		list[t.Wire.I] = list[t.Wire.I].Add(t.K.Mul(k))
	}
}

// turn: the other sign, for all numbers of a kind.
func (n numbers) turn(kind int) {
	for i, k := range n[kind] {
		n[kind][i] = k.Neg()
	}
}

// multiplies: does each gate's output wire have the product of the two others?
func (a Assignment) multiplies() bool {
	for i, left := range a.L {
		if !left.Mul(a.R[i]).Same(a.O[i]) {
			return false
		}
	}
	return true
}

// Eval: a sum under an assignment.
func (s *System) Eval(a Assignment, x Lin) (scalar.Scalar, api.Errno) {
	if s.none() {
		return scalar.Scalar{}, api.ErrArg
	}
	n, least := a.numbers(), x.Least()
	switch {
	case !s.fits(n):
		return scalar.Scalar{}, api.ErrLength
	case !s.names(least):
		return scalar.Scalar{}, api.ErrWire
	}
	return n.sum(least), api.OK
}

// Holds: does each gate multiply, and is each requirement met?
func (s *System) Holds(a Assignment) api.Errno {
	if s.none() {
		return api.ErrArg
	}
	n := a.numbers()
	switch {
	case !s.fits(n):
		return api.ErrLength
	case !a.multiplies():
		return api.ErrGate
	}
	for _, x := range s.requires {
		if !n.sum(x).IsZero() {
			return api.ErrRequire
		}
	}
	return api.OK
}

// Flatten: requirement q times z^(q + 1), all together: <L, l> + <R, r> + <O, o> = <V, v> + C.
func (s *System) Flatten(z scalar.Scalar) (Weights, api.Errno) {
	if s.none() {
		return Weights{}, api.ErrArg
	}
	n, power := s.zeros(), scalar.Int(1)
	for _, x := range s.requires {
		power = power.Mul(z)
		n.put(x, power)
	}
	// They stand on the other side.
	n.turn(kindValue)
	n.turn(kindOne)
	return Weights{n[kindLeft], n[kindRight], n[kindOut], n[kindValue], n[kindOne][0]}, api.OK
}
