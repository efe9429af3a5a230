package algebra

import (
	"slices"

	"veil/api"
)

// Powers: 1, x, x x, ..: n of them.
func Powers[T Ring[T]](x T, n int) ([]T, api.Errno) {
	if n < 0 || n > api.MaxVector {
		return nil, api.ErrArg
	}
	list := make([]T, n)
	power := x.One()
	for i := range list {
		list[i] = power
		power = power.Mul(x)
	}
	return list, api.OK
}

// Eval: c[0] + c[1] x + c[2] x x + ..
func Eval[T Ring[T]](c []T, x T) T {
	var y T
	for i := len(c) - 1; i >= 0; i-- {
		y = y.Mul(x).Add(c[i])
	}
	return y
}

// Product: the coefficients of the product of two polynomials.
func Product[T Ring[T]](c, d []T) []T {
	if len(c) == 0 || len(d) == 0 {
		return nil
	}
	list := make([]T, len(c)+len(d)-1)
	for i := range c {
		for j := range d {
			list[i+j] = list[i+j].Add(c[i].Mul(d[j]))
		}
	}
	return list
}

// Interpolate: the coefficients of the polynomial that has these values at these places.
func Interpolate[T Field[T]](xs, ys []T) ([]T, api.Errno) {
	if len(xs) != len(ys) {
		return nil, api.ErrLength
	}
	steps, e := newton(xs, ys)
	if e != api.OK {
		return nil, e
	}
	return multiplyOut(steps, xs), api.OK
}

// newton: the steps of the polynomial steps[0] + steps[1] (X - xs[0]) + steps[2] (X - xs[0]) (X - xs[1]) + .. that has these values at these places. It divides by the gap of every two places once, and so finds the two that are the same.
func newton[T Field[T]](xs, ys []T) ([]T, api.Errno) {
	steps := slices.Clone(ys)
	for apart := 1; apart < len(xs); apart++ {
		gaps := make([]T, len(xs)-apart)
		for i := range gaps {
			gaps[i] = xs[i+apart].Sub(xs[i])
			if gaps[i].IsZero() {
				return nil, api.ErrTwice
			}
		}
		inverses := InvertAll(gaps...)
		// From the end on: each step is taken with the one ahead of it as that was.
		for i := len(steps) - 1; i >= apart; i-- {
			steps[i] = steps[i].Sub(steps[i-1]).Mul(inverses[i-apart])
		}
	}
	return steps, api.OK
}

// multiplyOut: the coefficients of the polynomial of these steps (see newton).
func multiplyOut[T Ring[T]](steps, xs []T) []T {
	c := make([]T, len(steps))
	for k := len(steps) - 1; k >= 0; k-- {
		// So far c has len(steps) - 1 - k coefficients: it is multiplied by X - xs[k], and steps[k] is added.
		for i := len(steps) - 1 - k; i > 0; i-- {
			c[i] = c[i-1].Sub(xs[k].Mul(c[i]))
		}
		c[0] = steps[k].Sub(xs[k].Mul(c[0]))
	}
	return c
}
