package scalar

import "math/bits"

// climb goes on with a power of x: it reads so many bits of e, the highest first. Both stand in Montgomery's form.
func climb(power, x Scalar, e uint64, count int) Scalar {
	for i := range count {
		power = montgomery(power, power)
		if e>>(count-1-i)&1 == 1 {
			power = montgomery(power, x)
		}
	}
	return power
}

// Power: a to the power e; 0 to the power 0 is 1.
func (a Scalar) Power(e uint64) Scalar {
	return climb(table[shift], a.enter(), e, bits.Len64(e)).leave()
}

// Invert: 1 / a; 0 for 0.
func (a Scalar) Invert() Scalar {
	// Fermat: a to the power l - 2, which is 0 for 0.
	e := table[prime]
	e[0] -= 2
	x := a.enter()
	power := table[shift]
	for i := range limbs {
		power = climb(power, x, e[limbs-1-i], limbBits)
	}
	return power.leave()
}

// InvertAll: each one's inverse (0 for 0), by one inversion.
func InvertAll(xs ...Scalar) []Scalar {
	// In each place first the product of all ahead of it, without the zeros: they would spoil it.
	list := make([]Scalar, len(xs))
	product := Int(1)
	for i, x := range xs {
		if !x.IsZero() {
			list[i] = product
			product = product.Mul(x)
		}
	}

	// Backwards, rest is the inverse of the product of all up to and with place i.
	rest := product.Invert()
	for i := len(xs) - 1; i >= 0; i-- {
		if !xs[i].IsZero() {
			list[i] = list[i].Mul(rest)
			rest = rest.Mul(xs[i])
		}
	}
	return list
}
