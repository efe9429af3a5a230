package arith

import (
	"math/bits"
	"slices"

	"veil/algebra"
	"veil/api"
	"veil/circuit"
	"veil/gens"
	"veil/scalar"
)

// subject: what a proof is about: a copy of the system, which no Oracle can change meanwhile, and its sizes.
type subject struct {
	system       *circuit.System
	size, rounds int // N and log2 N
}

// subjectOf: ErrArg, if there is no system.
func subjectOf(s *circuit.System) (subject, api.Errno) {
	own := s.Clone()
	if own == nil {
		return subject{}, api.ErrArg
	}
	rounds := 0
	if gates := own.Gates(); gates > 1 {
		rounds = bits.Len(uint(gates - 1))
	}
	return subject{system: own, size: 1 << rounds, rounds: rounds}, api.OK
}

// alike: have all lists this length?
func alike(length int, lengths ...int) bool {
	return !slices.ContainsFunc(lengths, func(n int) bool { return n != length })
}

// enough: are there as many generators of either kind as places, at least?
func enough[P any](s subject, g gens.Set[P]) bool { return min(len(g.G), len(g.H)) >= s.size }

// valued: is there one for each value?
func (s subject) valued(count int) bool { return count == s.system.Values() }

// assigned: is there a number for each wire and value, and a blinding for each value?
func (s subject) assigned(a circuit.Assignment, blinds []scalar.Scalar) bool {
	return alike(s.system.Gates(), len(a.L), len(a.R), len(a.O)) && s.valued(len(a.V)) && s.valued(len(blinds))
}

// placed: has each of two lists one for each place?
func (s subject) placed(left, right int) bool { return alike(s.size, left, right) }

// weighed: all requirements as one, by powers of z, with the places' powers of y.
type weighed struct {
	left, out []scalar.Scalar // wL and wO: one for each place
	right     []scalar.Scalar // y^-i wR: it is asked for so alone
	values    []scalar.Scalar // wV
	constant  scalar.Scalar   // C
	up, down  []scalar.Scalar // y^i and y^-i
}

// weigh: for a y that is not 0.
func (s subject) weigh(y, z scalar.Scalar) weighed {
	flat, _ := s.system.Flatten(z)
	up, _ := algebra.Powers(y, s.size)
	down, _ := algebra.Powers(y.Invert(), s.size)
	right, _ := algebra.Each(down, s.padded(flat.R))
	return weighed{
		left: s.padded(flat.L), out: s.padded(flat.O), right: right,
		values: flat.V, constant: flat.C,
		up: up, down: down,
	}
}

// padded: a new list, with zeros for the places that have no gate.
func (s subject) padded(list []scalar.Scalar) []scalar.Scalar {
	whole := make([]scalar.Scalar, s.size)
	copy(whole, list)
	return whole
}

// delta: the sum of y^-i wR wL.
func (w weighed) delta() scalar.Scalar {
	sum, _ := algebra.Inner(w.right, w.left)
	return sum
}
