package algebra

import (
	"slices"

	"veil/api"
)

// system: rows with their right sides behind them. The elimination works in it: it has its own memory.
type system[T Field[T]] [][]T

// Solve: the one solution of a linear system.
func Solve[T Field[T]](rows [][]T, right []T) (x []T, e api.Errno) {
	if !square(rows, len(right)) {
		return nil, api.ErrLength
	}
	defer func() {
		// Whatever panicked: nothing panics out of this call.
		if recover() != nil {
			x, e = nil, api.ErrSingular
		}
	}()
	s := newSystem(rows, right)
	s.eliminate()
	return s.solution(), api.OK
}

// square: are there n rows of n elements?
func square[T any](rows [][]T, n int) bool {
	return len(rows) == n && !slices.ContainsFunc(rows, func(row []T) bool { return len(row) != n })
}

// newSystem: of as many rows as right sides.
func newSystem[T Field[T]](rows [][]T, right []T) system[T] {
	s := make(system[T], len(rows))
	for i := range s {
		s[i] = slices.Concat(rows[i], right[i:i+1])
	}
	return s
}

// eliminate: leaves 1 in each pivot's place and 0 below it. (What stands there is not written, as nobody reads it any more.)
func (s system[T]) eliminate() {
	for k := range s {
		found := s.pivot(k)
		s[k], s[found] = s[found], s[k]
		inverse := s[k][k].Invert()
		behind := s[k][k+1:]
		for j := range behind {
			behind[j] = behind[j].Mul(inverse)
		}
		for _, row := range s[k+1:] {
			takeAway(row[k+1:], row[k], behind)
		}
	}
}

// pivot: the first row from k on that is not 0 in column k. If there is none the rows are dependent, and nothing is left to do but to give up: by a panic, which Solve catches.
func (s system[T]) pivot(k int) int {
	for i := k; i < len(s); i++ {
		if !s[i][k].IsZero() {
			return i
		}
	}
	panic(api.ErrSingular)
}

// takeAway: so many times the other row from a row.
func takeAway[T Ring[T]](row []T, times T, other []T) {
	for j := range row {
		row[j] = row[j].Sub(times.Mul(other[j]))
	}
}

// solution: of a system behind its elimination, from the last unknown on.
func (s system[T]) solution() []T {
	n := len(s)
	x := make([]T, n)
	for i := n - 1; i >= 0; i-- {
		known, _ := Inner(s[i][i+1:n], x[i+1:])
		x[i] = s[i][n].Sub(known)
	}
	return x
}
