package algebra_test

// The chapter's examples, by their numbers, over both fields of the program.

import (
	"math/big"
	"testing"

	"veil/algebra"
	"veil/api"
	"veil/sample"
)

func TestExample1Sums(t *testing.T) {
	example1(t, scalars())
	example1(t, elems())
}

func example1[T algebra.Field[T]](t *testing.T, k kind[T]) {
	t.Helper()
	m := sample.Maker(1)
	l := func(ns ...int64) []T { return k.small(&m, ns...) }
	k.one(t, "Sum()", algebra.Sum[T](), new(big.Int))
	inner, e := algebra.Inner(l(1, 2), l(3, 4))
	k.all(t, "Inner([1 2], [3 4])", []T{inner}, e, bigs(11))
	inner, e = algebra.Inner(l(1), nil)
	k.one(t, "Inner([1], [])", inner, new(big.Int))
	refused[T](t, "Inner([1], [])", nil, e, api.ErrLength)
	list, e := algebra.Each(l(1, 2), l(3, 4))
	k.all(t, "Each([1 2], [3 4])", list, e, bigs(3, 8))
	list, e = algebra.Mix(l(2)[0], l(1, 1), l(3)[0], l(0, 1))
	k.all(t, "Mix(2, [1 1], 3, [0 1])", list, e, bigs(2, 5))
}

func TestExample2Powers(t *testing.T) {
	example2(t, scalars())
	example2(t, elems())
}

func example2[T algebra.Field[T]](t *testing.T, k kind[T]) {
	t.Helper()
	m := sample.Maker(2)
	x := k.small(&m, 2, 0, 5)
	list, e := algebra.Powers(x[0], 4)
	k.all(t, "Powers(2, 4)", list, e, bigs(1, 2, 4, 8))
	list, e = algebra.Powers(x[1], 2)
	k.all(t, "Powers(0, 2)", list, e, bigs(1, 0))
	list, e = algebra.Powers(x[2], 0)
	k.all(t, "Powers(5, 0)", list, e, nil)
	list, e = algebra.Powers(x[2], -1)
	refused(t, "Powers(5, -1)", list, e, api.ErrArg)
	list, e = algebra.Powers(x[2], 4097)
	refused(t, "Powers(5, 4097)", list, e, api.ErrArg)
}

func TestExample3Polynomials(t *testing.T) {
	example3(t, scalars())
	example3(t, elems())
}

func example3[T algebra.Field[T]](t *testing.T, k kind[T]) {
	t.Helper()
	m := sample.Maker(3)
	l := func(ns ...int64) []T { return k.small(&m, ns...) }
	k.one(t, "Eval([1 2 3], 2)", algebra.Eval(l(1, 2, 3), l(2)[0]), big.NewInt(17))
	k.all(t, "Product([1 1], [1 -1])", algebra.Product(l(1, 1), l(1, -1)), api.OK, bigs(1, 0, -1))
	k.all(t, "Product([], [1])", algebra.Product(nil, l(1)), api.OK, nil)
	k.all(t, "Product([0], [0])", algebra.Product(l(0), l(0)), api.OK, bigs(0))
}

func TestExample4InvertAll(t *testing.T) {
	example4(t, scalars())
	example4(t, elems())
}

func example4[T algebra.Field[T]](t *testing.T, k kind[T]) {
	t.Helper()
	m := sample.Maker(4)
	half := k.inverse(big.NewInt(2))
	k.all(t, "InvertAll(1, 0, 2)", algebra.InvertAll(k.small(&m, 1, 0, 2)...), api.OK, append(bigs(1, 0), half))
}

func TestExample5Interpolate(t *testing.T) {
	example5(t, scalars())
	example5(t, elems())
}

func example5[T algebra.Field[T]](t *testing.T, k kind[T]) {
	t.Helper()
	m := sample.Maker(5)
	l := func(ns ...int64) []T { return k.small(&m, ns...) }
	c, e := algebra.Interpolate(l(0, 1, 2), l(1, 2, 5))
	k.all(t, "Interpolate([0 1 2], [1 2 5])", c, e, bigs(1, 0, 1))
	c, e = algebra.Interpolate(l(1, 1), l(2, 2))
	refused(t, "Interpolate([1 1], [2 2])", c, e, api.ErrTwice)
	c, e = algebra.Interpolate(l(1), nil)
	refused(t, "Interpolate([1], [])", c, e, api.ErrLength)
	c, e = algebra.Interpolate[T](nil, nil)
	k.all(t, "Interpolate([], [])", c, e, nil)
}

func TestExample6Solve(t *testing.T) {
	example6(t, scalars())
	example6(t, elems())
}

func example6[T algebra.Field[T]](t *testing.T, k kind[T]) {
	t.Helper()
	m := sample.Maker(6)
	l := func(ns ...int64) []T { return k.small(&m, ns...) }
	x, e := algebra.Solve([][]T{l(1, 1), l(1, -1)}, l(3, 1))
	k.all(t, "Solve([[1 1] [1 -1]], [3 1])", x, e, bigs(2, 1))
	x, e = algebra.Solve([][]T{l(1, 1), l(2, 2)}, l(1, 2))
	refused(t, "Solve([[1 1] [2 2]], [1 2])", x, e, api.ErrSingular)
	x, e = algebra.Solve([][]T{l(1, 1)}, l(1))
	refused(t, "Solve([[1 1]], [1])", x, e, api.ErrLength)
	x, e = algebra.Solve([][]T{l(0, 1), l(1, 0)}, l(5, 7))
	k.all(t, "Solve([[0 1] [1 0]], [5 7])", x, e, bigs(7, 5))
	x, e = algebra.Solve[T](nil, nil)
	k.all(t, "Solve([], [])", x, e, nil)
}
