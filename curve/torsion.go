package curve

import (
	"veil/api"
	"veil/field"
)

// Free: is l times p the neutral point?
func (p Point) Free() bool { return p.timesL().Same(Point{}) }

// torsion: the point of order 8 that has no negative coordinate.
func torsion() Point {
	// Of every point l times has an order that divides 8, and of half of all points the order 8 itself: so some small y leads to one.
	found := Point{}
search:
	for y := uint64(2); ; y++ {
		p, e := Decompress(field.Int(y).Encode())
		if e != api.OK {
			continue search
		}
		found = p.timesL()
		if !found.Double().Double().Same(Point{}) {
			break search
		}
	}
	x, y := found.Affine()
	return at(x.Abs(), y.Abs())
}

// Torsion: i times the point of order 8 that has no negative coordinate.
func Torsion(i int) Point { return torsion().TimesBytes(api.Bytes32{byte(i & 7)}) }
