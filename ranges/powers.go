package ranges

import (
	"veil/algebra"
	"veil/api"
	"veil/scalar"
)

// ofPlaces: 1, y, y y, ..: one for each place.
func ofPlaces(p api.Params, y scalar.Scalar) []scalar.Scalar {
	powers, _ := algebra.Powers(y, p.Size())
	return powers
}

// ofValues: z z, z^3, ..: one for each value.
func ofValues(p api.Params, z scalar.Scalar) []scalar.Scalar {
	powers, _ := algebra.Powers(z, 2+p.Count)
	return powers[2:]
}

// ofBits: z^(2 + j(i)) pow(i): one for each place.
func ofBits(p api.Params, z scalar.Scalar) []scalar.Scalar {
	list := make([]scalar.Scalar, 0, p.Size())
	for _, power := range ofValues(p, z) {
		for bit := range p.Bits {
			list = append(list, power.Mul(scalar.Int(1<<bit)))
		}
	}
	return list
}

// delta: of allowed Params.
func delta(p api.Params, y, z scalar.Scalar) scalar.Scalar {
	// For 64 bits the shift leaves 0, and 0 - 1 is 2^64 - 1: just what is meant.
	most := scalar.Int(uint64(1)<<p.Bits - 1)
	places := z.Sub(z.Mul(z)).Mul(algebra.Sum(ofPlaces(p, y)...))
	return places.Sub(algebra.Sum(ofValues(p, z)...).Mul(z).Mul(most))
}

// multiplied: each of them times k.
func multiplied(k scalar.Scalar, list []scalar.Scalar) []scalar.Scalar {
	products := make([]scalar.Scalar, len(list))
	for i, x := range list {
		products[i] = x.Mul(k)
	}
	return products
}
