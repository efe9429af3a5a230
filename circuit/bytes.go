package circuit

import (
	"slices"

	"veil/api"
	"veil/scalar"
	"veil/wire"
)

// mostTerms: of a least sum whose wires are there, in the greatest system.
const mostTerms = 3*api.MaxGates + api.MaxCount + 1

// appendNumber: behind b, which is the caller's own: wire.AppendNumber would copy it each time.
func appendNumber(b []byte, n int) []byte {
	return append(b, wire.AppendNumber(nil, uint64(n))...)
}

// Encode: the system as bytes.
func (s *System) Encode() []byte {
	if s.none() {
		return nil
	}
	var b []byte
	for _, n := range []int{s.values, s.gates, len(s.requires)} {
		b = appendNumber(b, n)
	}
	for _, x := range s.requires {
		b = appendNumber(b, len(x))
		for _, t := range x {
			k := t.K.Encode()
			b = append(appendNumber(appendNumber(b, t.Wire.Kind), t.Wire.I), k[:]...)
		}
	}
	return b
}

// Decode: the system of these bytes.
func Decode(b []byte) (*System, api.Errno) {
	r := wire.NewReader(b)
	s := &System{made: true}
	s.values = int(r.Number(api.MaxCount))
	s.gates = int(r.Number(api.MaxGates))
	s.requires = wire.List(r, api.MaxRequires, s.readRequirement)
	if r.End() != api.OK || !s.begins() {
		return nil, api.ErrSystem
	}
	return s, api.OK
}

// readRequirement: a fault, unless it is a least sum whose wires are there.
func (s *System) readRequirement(r *wire.Reader) Lin {
	x := Lin(wire.List(r, mostTerms, readTerm))
	if !x.isLeast() || !s.names(x) {
		r.Fail(api.ErrSystem)
	}
	return x
}

// readTerm: its wire's kind, its wire's number, its factor.
func readTerm(r *wire.Reader) Term {
	var x Term
	x.Wire.Kind = int(r.Number(kindValue))
	x.Wire.I = int(r.Number(api.MaxGates))
	x.K = r.Scalar()
	return x
}

// isLeast: do the wires rise, and is no factor 0? (Of factors by their least limbs.)
func (a Lin) isLeast() bool {
	for i, x := range a {
		if x.K == (scalar.Scalar{}) || i > 0 && byWire(a[i-1].Wire, x.Wire) >= 0 {
			return false
		}
	}
	return true
}

// begins: does each value enter by a gate of its own? (The gates are there, for the requirements name their wires.)
func (s *System) begins() bool {
	if s.values > len(s.requires) {
		return false
	}
	for j := range s.values {
		if !slices.Equal(s.requires[j], entry(j)) {
			return false
		}
	}
	return true
}
