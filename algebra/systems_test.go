package algebra_test

import (
	"math/big"
	"testing"

	"veil/algebra"
	"veil/api"
	"veil/sample"
)

// times: the right sides that belong to an x.
func (k kind[T]) times(rows [][]T, x []T) []*big.Int {
	right := make([]*big.Int, len(rows))
	for i, row := range rows {
		right[i] = k.inner(k.numbers(row), k.numbers(x))
	}
	return right
}

// elements: of numbers, by one of their looks each.
func (k kind[T]) elements(m *sample.Maker, numbers []*big.Int) []T {
	list := make([]T, len(numbers))
	for i, n := range numbers {
		list[i] = k.of(m, n)
	}
	return list
}

// everyList: all lists of so many elements, in any looks.
func (k kind[T]) everyList(m *sample.Maker, count int) [][]T {
	lists := [][]T{nil}
	for range count {
		var longer [][]T
		for _, list := range lists {
			for n := range k.modulus.Int64() {
				longer = append(longer, append(list[:len(list):len(list)], k.of(m, big.NewInt(n))))
			}
		}
		lists = longer
	}
	return lists
}

// everySystem: holds Solve, for all systems of n rows over a small field, against all lists that might be the solution.
func everySystem[S size](t *testing.T, n int) {
	t.Helper()
	k := helds[S]()
	m := sample.Maker(81)
	candidates := k.everyList(&m, n)
	for _, flat := range k.everyList(&m, n*n) {
		rows := make([][]held[S], n)
		for i := range rows {
			rows[i] = flat[i*n : (i+1)*n]
		}
		for _, right := range candidates {
			var solutions [][]held[S]
			for _, x := range candidates {
				if sameNumbers(k.times(rows, x), k.numbers(right)) {
					solutions = append(solutions, x)
				}
			}
			got, e := algebra.Solve(rows, right)
			if len(solutions) == 1 {
				k.all(t, "Solve", got, e, k.numbers(solutions[0]))
			} else {
				refused(t, "Solve where there is not just one solution", got, e, api.ErrSingular)
			}
		}
	}
}

func sameNumbers(a, b []*big.Int) bool {
	for i := range a {
		if a[i].Cmp(b[i]) != 0 {
			return false
		}
	}
	return len(a) == len(b)
}

func TestP607EverySmallSystem(t *testing.T) {
	everySystem[two](t, 0)
	everySystem[two](t, 1)
	everySystem[two](t, 2)
	everySystem[two](t, 3)
	everySystem[three](t, 1)
	everySystem[three](t, 2)
	everySystem[seven](t, 1)
}

// independent: n rows with one solution for each right side: those of a triangle that is not 0 in its corners, mixed with those ahead of them, and put into another order.
func (k kind[T]) independent(m *sample.Maker, n int) [][]T {
	rows := make([][]T, n)
	for i := range rows {
		rows[i] = k.list(m, n)
		clear(rows[i][:i])
		rows[i][i] = k.small(m, 1, -1)[m.Next()%2]
		for j := range i {
			rows[i], _ = algebra.Mix(k.of(m, big.NewInt(1)), rows[i], k.any(m), rows[j])
		}
	}
	for i := range rows {
		j := int(m.Next() % uint64(n))
		rows[i], rows[j] = rows[j], rows[i]
	}
	return rows
}

func solved[T algebra.Field[T]](t *testing.T, k kind[T]) {
	t.Helper()
	m := sample.Maker(82)
	for _, n := range []int{1, 2, 2, 2, 3, 3, 3, 4, 5, 6, 7, 13, 20} {
		for range 5 {
			rows, x := k.independent(&m, n), k.list(&m, n)
			got, e := algebra.Solve(rows, k.elements(&m, k.times(rows, x)))
			k.all(t, "Solve", got, e, k.numbers(x))
		}
	}
}

func TestP607Solve(t *testing.T) {
	solved(t, scalars())
	solved(t, elems())
	solved(t, helds[two]())
	solved(t, helds[seven]())
}

// pivots: systems in whose pivots' places 0 stands, by any look, so that rows must change their places.
func pivots[T algebra.Field[T]](t *testing.T, k kind[T]) {
	t.Helper()
	m := sample.Maker(83)
	for range 10 {
		for _, rows := range [][][]T{
			{k.small(&m, 0, 1), k.small(&m, 1, 0)},
			{k.small(&m, 0, 0, 1), k.small(&m, 0, 1, 0), k.small(&m, 1, 0, 0)},
			{k.small(&m, 0, 0, 1), k.small(&m, 1, 0, 0), k.small(&m, 0, 1, 0)},
			{k.small(&m, 0, 1, 1), k.small(&m, 1, 0, 0), k.small(&m, 0, 1, 0)},
			{k.small(&m, 1, 1, 0), k.small(&m, 1, 1, 1), k.small(&m, 0, 1, 1)},
		} {
			x := k.list(&m, len(rows))
			got, e := algebra.Solve(rows, k.elements(&m, k.times(rows, x)))
			k.all(t, "Solve with a pivot that is 0", got, e, k.numbers(x))
		}
	}
	for _, zero := range k.looks(new(big.Int)) {
		rows := [][]T{{zero, k.of(&m, big.NewInt(1))}, {k.of(&m, big.NewInt(1)), zero}}
		got, e := algebra.Solve(rows, k.small(&m, 5, 7))
		k.all(t, "Solve with a zero by another look", got, e, bigs(7, 5))
		got, e = algebra.Solve([][]T{{zero}}, []T{zero})
		refused(t, "Solve of a zero by another look", got, e, api.ErrSingular)
	}
}

func TestP607FirstPivotZero(t *testing.T) {
	pivots(t, scalars())
	pivots(t, elems())
	pivots(t, helds[two]())
	pivots(t, helds[seven]())
}

// dependent: one row of each system is a mix of others, or 0; once its right side fits (more than one solution), once not (none).
func dependent[T algebra.Field[T]](t *testing.T, k kind[T]) {
	t.Helper()
	m := sample.Maker(84)
	one := k.of(&m, big.NewInt(1))
	for n := 1; n <= 7; n++ {
		for place := range n {
			rows := k.independent(&m, n)
			rows[place] = make([]T, n)
			for i := range rows {
				if i != place {
					rows[place], _ = algebra.Mix(one, rows[place], k.any(&m), rows[i])
				}
			}
			right := k.elements(&m, k.times(rows, k.list(&m, n)))
			x, e := algebra.Solve(rows, right)
			refused(t, "Solve with more than one solution", x, e, api.ErrSingular)
			right[place] = right[place].Add(one)
			x, e = algebra.Solve(rows, right)
			refused(t, "Solve without a solution", x, e, api.ErrSingular)
		}
	}
}

func TestP607DependentRows(t *testing.T) {
	dependent(t, scalars())
	dependent(t, elems())
	dependent(t, helds[two]())
	dependent(t, helds[seven]())
}

func wrongLengths[T algebra.Field[T]](t *testing.T, k kind[T]) {
	t.Helper()
	m := sample.Maker(85)
	for n := range 6 {
		for _, off := range []int{-n, -1, 1, n, 100} {
			if off == 0 || n+off < 0 {
				continue
			}
			x, e := algebra.Solve(k.square(&m, n), k.list(&m, n+off))
			refused(t, "Solve with another number of right sides", x, e, api.ErrLength)
			for place := range n {
				rows := k.square(&m, n)
				rows[place] = k.list(&m, n+off)
				x, e := algebra.Solve(rows, k.list(&m, n))
				refused(t, "Solve with a row of another length", x, e, api.ErrLength)
			}
		}
	}
	x, e := algebra.Solve([][]T{make([]T, 2), make([]T, 2), nil}, make([]T, 3))
	refused(t, "Solve with short rows of zeros", x, e, api.ErrLength)
	x, e = algebra.Solve([][]T{{}}, nil)
	refused(t, "Solve with a row and no right side", x, e, api.ErrLength)
	x, e = algebra.Solve([][]T{}, []T{})
	k.all(t, "Solve of nothing", x, e, nil)
	x, e = algebra.Solve[T](nil, nil)
	k.all(t, "Solve of nothing", x, e, nil)
}

// square: n rows of n elements.
func (k kind[T]) square(m *sample.Maker, n int) [][]T {
	rows := make([][]T, n)
	for i := range rows {
		rows[i] = k.list(m, n)
	}
	return rows
}

func TestP607WrongLengths(t *testing.T) {
	wrongLengths(t, scalars())
	wrongLengths(t, elems())
	wrongLengths(t, helds[seven]())
}

// P608: what Solve answers gives the right side when it is put in; where it answers none it is singular for each other right side, too.
func TestP608Solve(t *testing.T) {
	k := helds[three]()
	m := sample.Maker(86)
	for range 2000 {
		n := int(m.Next() % 5)
		rows, right := k.square(&m, n), k.list(&m, n)
		x, e := algebra.Solve(rows, right)
		if e == api.OK {
			k.all(t, "what Solve answers, put in", k.elements(&m, k.times(rows, x)), e, k.numbers(right))
		}
		if _, other := algebra.Solve(rows, k.list(&m, n)); other != e {
			t.Errorf("Solve of the same rows: errors %d, %d", e, other)
		}
	}
}
