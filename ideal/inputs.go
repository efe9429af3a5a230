package ideal

import (
	"slices"

	"veil/api"
	"veil/gens"
	"veil/ranges"
	"veil/scalar"
)

// refusal: what is wrong with what a call is handed, the first of it. A simulator knows no openings: it tells how many commitments there are.
func refusal[P any](g gens.Set[P], p api.Params, count int, vs []ranges.Opening, left, right []scalar.Scalar, challenges ...scalar.Scalar) api.Errno {
	if !p.Allowed() {
		return api.ErrParams
	}
	size := p.Size()
	switch {
	case min(len(g.G), len(g.H)) < size || count != p.Count || len(left) != size || len(right) != size:
		return api.ErrLength
	case tooGreat(p, vs):
		return api.ErrValue
	case slices.ContainsFunc(challenges, scalar.Scalar.IsZero):
		return api.ErrZero
	}
	return api.OK
}

// tooGreat: is some value 2^n or more?
func tooGreat(p api.Params, vs []ranges.Opening) bool {
	top, some := p.Top()
	return some && slices.ContainsFunc(vs, func(v ranges.Opening) bool { return v.V >= top })
}

// bitsOf: aL, the bits of all values, and aR, those less 1.
func bitsOf(p api.Params, vs []ranges.Opening) (aL, aR []scalar.Scalar) {
	for _, v := range vs {
		for place := range p.Bits {
			bit := scalar.Int(v.V >> place & 1)
			aL, aR = append(aL, bit), append(aR, bit.Sub(bit.One()))
		}
	}
	return aL, aR
}

// leastOf: the same scalars by their least limbs, in a list of its own.
func leastOf(list []scalar.Scalar) []scalar.Scalar {
	least := make([]scalar.Scalar, len(list))
	for i, k := range list {
		least[i] = k.Least()
	}
	return least
}
