package curve

import (
	"veil/api"
	"veil/scalar"
)

// multiples: 0 p, 1 p, .., 15 p.
func (p Point) multiples() (table [1 << window]Point) {
	for i := 1; i < len(table); i++ {
		table[i] = table[i-1].Add(p)
	}
	return table
}

// up: p doubled once for each bit of a digit. Only the last doubling works out t.
func (p Point) up() Point {
	for range window - 1 {
		p = p.twice().flat()
	}
	return p.twice().point()
}

// TimesBytes: k times p, k a number of 256 bits, the lowest byte first.
func (p Point) TimesBytes(k api.Bytes32) Point {
	number, table := bits(k), p.multiples()
	place := number.top()
	r := table[number.digit(place)]
	for place--; place >= 0; place-- {
		r = r.up()
		if d := number.digit(place); d != 0 {
			r = r.Add(table[d])
		}
	}
	return r
}

// Times: k times p, k the least number of a scalar.
func (p Point) Times(k scalar.Scalar) Point { return p.TimesBytes(k.Encode()) }

// timesL: l times p, l the order of the group: no scalar stands for l, but one for l - 1.
func (p Point) timesL() Point { return p.Times(scalar.Int(1).Neg()).Add(p) }
