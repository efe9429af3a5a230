package sigma

import (
	"veil/gens"
	"veil/msm"
	"veil/scalar"
)

// Key: the claim to know the logarithm of a public key.
func Key[P msm.Group[P]](base, public P) Claim[P] {
	return Claim[P]{Rows: [][]P{{base}}, Images: []P{public}}
}

// Opening: the claim to know the value and the blinding of a commitment.
func Opening[P msm.Group[P]](s gens.Set[P], commitment P) Claim[P] {
	return Claim[P]{Rows: [][]P{{s.B, s.Blind}}, Images: []P{commitment}}
}

// Equal: the claim that two commitments hold the same value: value, first blinding, second blinding.
func Equal[P msm.Group[P]](s gens.Set[P], a, b P) Claim[P] {
	var neutral P
	return Claim[P]{
		Rows:   [][]P{{s.B, s.Blind, neutral}, {s.B, neutral, s.Blind}},
		Images: []P{a, b},
	}
}

// stands: are there rows of one width, and an image for each?
func (c Claim[P]) stands() bool {
	if len(c.Rows) == 0 || len(c.Rows) != len(c.Images) {
		return false
	}
	for _, row := range c.Rows {
		if len(row) == 0 || len(row) != len(c.Rows[0]) {
			return false
		}
	}
	return true
}

// fits: does the claim stand, and has each list as many scalars as it is wide?
func (c Claim[P]) fits(lists ...[]scalar.Scalar) bool {
	if !c.stands() {
		return false
	}
	for _, list := range lists {
		if len(list) != len(c.Rows[0]) {
			return false
		}
	}
	return true
}
