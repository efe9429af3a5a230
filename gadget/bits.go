package gadget

import (
	"veil/api"
	"veil/circuit"
	"veil/scalar"
)

// The most bits: 2^252 lies below l, so that a number has its bits in one way alone; and the difference of two numbers of 251 bits, where it is below 0, has more than 251.
const (
	mostBits = 252
	mostLess = mostBits - 1
)

// Bit: x must be 0 or 1.
func (d *Desk) Bit(x circuit.Lin) api.Errno { return d.only(d.bit, x) }

// bit: a sum must be 0 or 1.
func (d *Desk) bit(sums ...circuit.Lin) []circuit.Lin {
	x := sums[0]
	return d.zero(d.product(x, x.Sub(unit()))...)
}

// Bits: x must lie from 0 to 2^n - 1: its bits, the lowest first.
func (d *Desk) Bits(x circuit.Lin, n int) ([]circuit.Lin, api.Errno) {
	if n < 1 || n > mostBits {
		return nil, api.ErrArg
	}
	return d.whole(d.bits(n), x)
}

// bits: the piece by which each sum must have n bits: the bits of all of them.
func (d *Desk) bits(n int) piece {
	return func(sums ...circuit.Lin) []circuit.Lin {
		var list []circuit.Lin
		for _, x := range sums {
			list = append(list, d.split(x, n)...)
		}
		return list
	}
}

// split: x must be the sum of n bits, each times its power of 2.
func (d *Desk) split(x circuit.Lin, n int) []circuit.Lin {
	number, _ := d.Number(x)
	var list []circuit.Lin
	var sum circuit.Lin
	weight := scalar.Int(1)
	for i := range n {
		bit := d.freeBit(number.Bit(i))
		list = append(list, bit)
		sum = append(sum, bit.Times(weight)...)
		weight = weight.Add(weight)
	}
	d.zero(sum.Sub(x))
	return list
}

// freeBit: a gate whose left wire must be 0 or 1, for its right wire is 1 less and their product is 0: its left wire.
func (d *Desk) freeBit(number int) circuit.Lin {
	k := scalar.Int(uint64(number))
	left, right, out := d.free(k, k.Sub(scalar.Int(1)))
	d.zero(out, left.Sub(right).Sub(unit()))
	return left
}

// Less: x must be less than y, both from 0 to 2^n - 1.
func (d *Desk) Less(x, y circuit.Lin, n int) api.Errno {
	if n < 1 || n > mostLess {
		return api.ErrArg
	}
	return d.only(d.less(n), x, y)
}

// less: the piece by which the first of two sums must lie below the second.
func (d *Desk) less(n int) piece {
	bits := d.bits(n)
	return func(sums ...circuit.Lin) []circuit.Lin {
		x, y := sums[0], sums[1]
		return bits(x, y, y.Sub(x).Sub(unit()))
	}
}
