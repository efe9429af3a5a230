package transcript

import (
	"slices"

	"veil/api"
	"veil/scalar"
)

// Said: one call of a Script.
type Said struct {
	Draw  bool
	Label string
	Parts [][]byte
}

// copied: the same call in memory of its own.
func (s Said) copied() Said {
	return Said{Draw: s.Draw, Label: s.Label, Parts: copies(s.Parts)}
}

// copies: of parts, each in memory of its own.
func copies(parts [][]byte) [][]byte {
	list := make([][]byte, len(parts))
	for i, part := range parts {
		list[i] = slices.Clone(part)
	}
	return list
}

// Script: an Oracle that answers challenges that were given.
type Script struct {
	left  []scalar.Scalar // the challenges that were not drawn yet
	heard []Said
	made  bool // by Given: others count as nil
}

// Given: a Script with these challenges, in order.
func Given(list ...scalar.Scalar) *Script {
	return &Script{left: slices.Clone(list), made: true}
}

// none: of a nil Script and of one that Given did not make.
func (s *Script) none() bool { return s == nil || !s.made }

// Absorb: this is said.
func (s *Script) Absorb(label string, parts ...[]byte) {
	if s.none() {
		return
	}
	s.heard = append(s.heard, Said{Label: label, Parts: copies(parts)})
}

// Draw: the next challenge; api.ErrShort: there is none; api.ErrZero: it is 0.
func (s *Script) Draw(label string) (scalar.Scalar, api.Errno) {
	if s.none() {
		return scalar.Scalar{}, api.ErrArg
	}
	s.heard = append(s.heard, Said{Draw: true, Label: label})
	if len(s.left) == 0 {
		return scalar.Scalar{}, api.ErrShort
	}
	c := s.left[0]
	s.left = s.left[1:]
	return challenge(c)
}

// Heard: all calls so far.
func (s *Script) Heard() []Said {
	if s.none() {
		return nil
	}
	list := make([]Said, len(s.heard))
	for i, said := range s.heard {
		list[i] = said.copied()
	}
	return list
}
