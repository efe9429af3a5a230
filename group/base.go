package group

import (
	"veil/curve"
	"veil/scalar"
)

// window: bits of a digit.
const window = 4

// row: 1, 2, .., 8 times a point: as many as a signed digit may ask for.
type row [1 << (window - 1)]curve.Point

// multiples: the row of a point.
func multiples(c curve.Point) (r row) {
	r[0] = c
	for i := 1; i < len(r); i++ {
		r[i] = r[i-1].Add(c)
	}
	return r
}

// rowsOf: the rows of c, 16 c, 16^2 c, ..: one for each digit of a scalar.
func rowsOf(c curve.Point) []row {
	digits, _ := scalar.Scalar{}.Digits(window)
	rows := make([]row, len(digits))
	for i := range rows {
		rows[i] = multiples(c)
		c = rows[i][len(row{})-1].Double()
	}
	return rows
}

// timesBase: k times the base point: a sum of at most one entry of each row, without any doubling.
func timesBase(k scalar.Scalar) curve.Point {
	rows := baseRows()
	digits, _ := k.Digits(window)
	var r curve.Point
	for i, d := range digits {
		if d > 0 {
			r = r.Add(rows[i][d-1])
		} else if d < 0 {
			r = r.Sub(rows[i][-d-1])
		}
	}
	return r
}
