package gadget

import (
	"veil/api"
	"veil/circuit"
)

// Zero: x must be 0.
func (d *Desk) Zero(x circuit.Lin) api.Errno { return d.only(d.zero, x) }

// zero: each sum is required, in their order.
func (d *Desk) zero(sums ...circuit.Lin) []circuit.Lin {
	for _, x := range sums {
		d.keep(d.system.Require(x))
	}
	return nil
}

// Equal: x must be y.
func (d *Desk) Equal(x, y circuit.Lin) api.Errno { return d.only(d.equal, x, y) }

// equal: two sums must be the same.
func (d *Desk) equal(sums ...circuit.Lin) []circuit.Lin {
	return d.zero(sums[0].Sub(sums[1]))
}

// NotZero: x must not be 0.
func (d *Desk) NotZero(x circuit.Lin) api.Errno { return d.only(d.notZero, x) }

// notZero: a sum must have an inverse.
func (d *Desk) notZero(sums ...circuit.Lin) []circuit.Lin {
	x := sums[0]
	number, _ := d.Number(x)
	left, _, out := d.free(number, number.Invert())
	return d.zero(left.Sub(x), out.Sub(unit()))
}
