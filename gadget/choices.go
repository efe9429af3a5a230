package gadget

import (
	"slices"

	"veil/api"
	"veil/circuit"
	"veil/scalar"
)

// Choose: x, if bit is 1, y, if it is 0.
func (d *Desk) Choose(bit, x, y circuit.Lin) (circuit.Lin, api.Errno) {
	return d.one(d.choose, bit, x, y)
}

// choose: of the second and the third sum, by the first.
func (d *Desk) choose(sums ...circuit.Lin) []circuit.Lin {
	bit, x, y := sums[0], sums[1], sums[2]
	return []circuit.Lin{d.multiply(bit, x.Sub(y)).Add(y)}
}

// Member: x must be one of the set.
func (d *Desk) Member(x circuit.Lin, set []scalar.Scalar) api.Errno {
	if len(set) == 0 {
		return api.ErrArg
	}
	return d.only(d.member(set), x)
}

// member: the piece by which a sum must be one of the set: else none of the factors is 0.
func (d *Desk) member(set []scalar.Scalar) piece {
	return func(sums ...circuit.Lin) []circuit.Lin {
		x := sums[0]
		less := func(s scalar.Scalar) circuit.Lin { return x.Sub(circuit.Const(s)) }
		return d.zero(productOf(d, less, set...))
	}
}

// Shuffle: at the place r the products of all xs[i] - r and of all ys[i] - r must be the same.
func (d *Desk) Shuffle(xs, ys []circuit.Lin, r scalar.Scalar) api.Errno {
	switch {
	case d.none():
		return api.ErrArg
	case len(xs) != len(ys):
		return api.ErrLength
	case len(xs) == 0:
		return api.OK
	}
	return d.only(d.shuffle(r), slices.Concat(xs, ys)...)
}

// shuffle: the piece by which the first half of the sums and the second one have the same product at the place r.
func (d *Desk) shuffle(r scalar.Scalar) piece {
	less := circuit.Const(r.Neg()).Add
	return func(sums ...circuit.Lin) []circuit.Lin {
		half := len(sums) / 2
		return d.equal(productOf(d, less, sums[:half]...), productOf(d, less, sums[half:]...))
	}
}
