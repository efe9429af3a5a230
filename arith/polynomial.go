package arith

import (
	"veil/algebra"
	"veil/scalar"
)

// polynomial: one for each place: their values at x.
type polynomial func(x scalar.Scalar) []scalar.Scalar

// ofPlaces: the polynomial that has these coefficients in each place.
func ofPlaces(size int, coefficients func(i int) []scalar.Scalar) polynomial {
	return func(x scalar.Scalar) []scalar.Scalar {
		values := make([]scalar.Scalar, size)
		for i := range values {
			values[i] = algebra.Eval(coefficients(i), x)
		}
		return values
	}
}

// polynomials: l and r.
func (k secret) polynomials(w weighed) (l, r polynomial) {
	var none scalar.Scalar
	l = ofPlaces(len(k.aL), func(i int) []scalar.Scalar {
		return []scalar.Scalar{none, k.aL[i].Add(w.right[i]), k.aO[i], k.tape.SL[i]}
	})
	r = ofPlaces(len(k.aR), func(i int) []scalar.Scalar {
		y := w.up[i]
		return []scalar.Scalar{w.out[i].Sub(y), y.Mul(k.aR[i]).Add(w.left[i]), none, y.Mul(k.tape.SR[i])}
	})
	return l, r
}

// product: t0 to t6 of <l(X), r(X)>, by its values at seven places.
func product(l, r polynomial) []scalar.Scalar {
	var places, values []scalar.Scalar
	for n := range uint64(7) {
		x := scalar.Int(n)
		value, _ := algebra.Inner(l(x), r(x))
		places, values = append(places, x), append(values, value)
	}
	t, _ := algebra.Interpolate(places, values)
	return t
}
