package gadget

import (
	"math/bits"

	"veil/api"
	"veil/circuit"
)

// Multiply: x y.
func (d *Desk) Multiply(x, y circuit.Lin) (circuit.Lin, api.Errno) {
	return d.one(d.product, x, y)
}

// Product: of any number of sums.
func (d *Desk) Product(xs ...circuit.Lin) (circuit.Lin, api.Errno) {
	return d.one(d.product, xs...)
}

// product: of all sums.
func (d *Desk) product(sums ...circuit.Lin) []circuit.Lin {
	return []circuit.Lin{productOf(d, circuit.Lin.Least, sums...)}
}

// productOf: of the sums that turn makes of a list. It makes each in its turn: the list may be far longer than there is room for gates.
func productOf[T any](d *Desk, turn func(T) circuit.Lin, list ...T) circuit.Lin {
	if len(list) == 0 {
		return unit()
	}
	all := turn(list[0])
	for _, x := range list[1:] {
		if d.fault != api.OK {
			break
		}
		all = d.multiply(all, turn(x))
	}
	return all
}

// Power: x to the power n.
func (d *Desk) Power(x circuit.Lin, n int) (circuit.Lin, api.Errno) {
	if n < 0 {
		return nil, api.ErrArg
	}
	return d.one(d.power(n), x)
}

// power: the piece that brings a sum to the power n.
func (d *Desk) power(n int) piece {
	return func(sums ...circuit.Lin) []circuit.Lin {
		if n == 0 {
			return d.product()
		}
		x := sums[0]
		p := d.product(x)
		for i := bits.Len(uint(n)) - 2; i >= 0; i-- {
			p = d.product(p[0], p[0])
			if n>>i&1 == 1 {
				p = d.product(p[0], x)
			}
		}
		return p
	}
}
