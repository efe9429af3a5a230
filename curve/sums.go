package curve

import (
	"veil/api"
	"veil/field"
)

// fractions: a point whose coordinates are xTop / xLow and yTop / yLow, as the formula of the sum gives them.
type fractions struct {
	xTop, xLow, yTop, yLow field.Elem
}

// flat: the point without its t, which doubling does not ask for.
func (f fractions) flat() Point {
	return Point{x: f.xTop.Mul(f.yLow), y: f.yTop.Mul(f.xLow), z: f.xLow.Mul(f.yLow)}
}

// point: the point they are.
func (f fractions) point() Point {
	p := f.flat()
	p.t = f.xTop.Mul(f.yTop)
	return p
}

// Add: p + q.
func (p Point) Add(q Point) Point {
	p, q = p.whole(), q.whole()
	xx, yy, zz := p.x.Mul(q.x), p.y.Mul(q.y), p.z.Mul(q.z)
	dxy := p.t.Mul(q.t).Mul(field.Const(api.CD))
	both := xx.Add(yy)
	cross := p.x.Add(p.y).Mul(q.x.Add(q.y)).Sub(both) // x1 y2 + y1 x2, by one product
	return fractions{cross, zz.Add(dxy), both, zz.Sub(dxy)}.point()
}

// Sub: p - q.
func (p Point) Sub(q Point) Point { return p.Add(q.Neg()) }

// Neg: -p.
func (p Point) Neg() Point { return Point{p.x.Neg(), p.y, p.z, p.t.Neg()} }

// twice: p + p. The curve's own equation turns 1 + d x x y y into y y - x x, and 1 - d x x y y into 2 less that: so d and t are not needed. (Of the zero value all fractions are 0 / 0, which leads back to it.)
func (p Point) twice() fractions {
	xx, yy, zz, xy := p.x.Square(), p.y.Square(), p.z.Square(), p.x.Mul(p.y)
	less := yy.Sub(xx)
	return fractions{xy.Add(xy), less, yy.Add(xx), zz.Add(zz).Sub(less)}
}

// Double: p + p.
func (p Point) Double() Point { return p.twice().point() }

// Sum: of any number of points.
func Sum(ps ...Point) Point {
	sum := Point{}
	for _, p := range ps {
		sum = sum.Add(p)
	}
	return sum
}
