package algebra_test

import (
	"math/big"
	"slices"
	"testing"

	"veil/algebra"
	"veil/api"
	"veil/sample"
)

func sums[T algebra.Ring[T]](t *testing.T, k kind[T]) {
	t.Helper()
	m := sample.Maker(61)
	for _, count := range []int{0, 0, 1, 1, 1, 2, 2, 2, 3, 3, 8, 33, 100} {
		x, y, a, b := k.any(&m), k.any(&m), k.list(&m, count), k.list(&m, count)
		an, bn := k.numbers(a), k.numbers(b)

		total, each, mix := new(big.Int), make([]*big.Int, count), make([]*big.Int, count)
		for i := range an {
			total.Add(total, an[i])
			each[i] = new(big.Int).Mul(an[i], bn[i])
			mix[i] = new(big.Int).Mul(k.number(x), an[i])
			mix[i].Add(mix[i], new(big.Int).Mul(k.number(y), bn[i]))
		}
		k.one(t, "Sum", algebra.Sum(a...), total)
		inner, e := algebra.Inner(a, b)
		k.one(t, "Inner", inner, k.inner(an, bn))
		if e != api.OK {
			t.Errorf("Inner of %d: error %d", count, e)
		}
		list, e := algebra.Each(a, b)
		k.all(t, "Each", list, e, each)
		list, e = algebra.Mix(x, a, y, b)
		k.all(t, "Mix", list, e, mix)
	}
}

func TestP602Sums(t *testing.T) {
	sums(t, scalars())
	sums(t, elems())
	sums(t, octets())
	sums(t, helds[two]())
	sums(t, helds[seven]())
	sums(t, helds[twelve]())
}

func emptySums[T algebra.Ring[T]](t *testing.T, k kind[T]) {
	t.Helper()
	m := sample.Maker(62)
	for _, none := range [][]T{nil, {}} {
		for _, other := range [][]T{nil, {}} {
			k.one(t, "Sum of none", algebra.Sum(none...), new(big.Int))
			inner, e := algebra.Inner(none, other)
			k.one(t, "Inner of none", inner, new(big.Int))
			if e != api.OK {
				t.Errorf("Inner of none: error %d", e)
			}
			list, e := algebra.Each(none, other)
			k.all(t, "Each of none", list, e, nil)
			list, e = algebra.Mix(k.any(&m), none, k.any(&m), other)
			k.all(t, "Mix of none", list, e, nil)
		}
	}
}

func TestP602EmptyLists(t *testing.T) {
	emptySums(t, scalars())
	emptySums(t, elems())
	emptySums(t, octets())
	emptySums(t, helds[seven]())
}

func unlikeLengths[T algebra.Ring[T]](t *testing.T, k kind[T]) {
	t.Helper()
	m := sample.Maker(63)
	for _, counts := range [][2]int{{0, 1}, {1, 0}, {1, 2}, {2, 1}, {7, 8}, {8, 7}, {30, 0}, {0, 30}} {
		x, y := k.of(&m, big.NewInt(5)), k.of(&m, big.NewInt(6))
		a, b := make([]T, counts[0]), make([]T, counts[1])
		for _, list := range [][]T{a, b} {
			for i := range list {
				list[i] = k.of(&m, big.NewInt(1))
			}
		}
		inner, e := algebra.Inner(a, b)
		k.one(t, "Inner of unlike lengths", inner, new(big.Int))
		if e != api.ErrLength {
			t.Errorf("Inner of %d and %d: error %d", len(a), len(b), e)
		}
		list, e := algebra.Each(a, b)
		refused(t, "Each of unlike lengths", list, e, api.ErrLength)
		list, e = algebra.Mix(x, a, y, b)
		refused(t, "Mix of unlike lengths", list, e, api.ErrLength)
	}
}

func TestP602UnlikeLengths(t *testing.T) {
	unlikeLengths(t, scalars())
	unlikeLengths(t, elems())
	unlikeLengths(t, octets())
	unlikeLengths(t, helds[seven]())
}

// inverse: by math/big; 0 for 0.
func (k kind[T]) inverse(n *big.Int) *big.Int {
	if n.Sign() == 0 {
		return new(big.Int)
	}
	return new(big.Int).ModInverse(n, k.modulus)
}

func inverses[T algebra.Field[T]](t *testing.T, k kind[T]) {
	t.Helper()
	m := sample.Maker(64)
	lists := [][]T{
		nil, {}, make([]T, 1), make([]T, 5), k.small(&m, 0), k.small(&m, 1), k.small(&m, -1),
		k.small(&m, 0, 0, 0, 0), k.small(&m, 0, -1), k.small(&m, -1, 0), k.small(&m, 1, 0, -1, 0, 0, 1, -1), k.small(&m, 0, 1, 0),
	}
	for count := range 30 {
		lists = append(lists, k.list(&m, count))
	}
	lists = append(lists, k.list(&m, 2*api.MaxVector+1))
	for _, xs := range lists {
		want := k.numbers(xs)
		for i := range want {
			want[i] = k.inverse(want[i])
		}
		got := algebra.InvertAll(xs...)
		k.all(t, "InvertAll", got, api.OK, want)
		for i := range got {
			k.one(t, "Invert", xs[i].Invert(), k.number(got[i]))
		}
	}
}

func TestP605InvertAll(t *testing.T) {
	inverses(t, scalars())
	inverses(t, elems())
	inverses(t, helds[two]())
	inverses(t, helds[three]())
	inverses(t, helds[seven]())
}

// Zeros by other looks than the zero value's are zeros too.
func TestP605ZerosByAllTheirLooks(t *testing.T) {
	zerosByLooks(t, scalars())
	zerosByLooks(t, elems())
	zerosByLooks(t, helds[seven]())
}

func zerosByLooks[T algebra.Field[T]](t *testing.T, k kind[T]) {
	t.Helper()
	m := sample.Maker(65)
	for _, zero := range k.looks(new(big.Int)) {
		three := k.of(&m, big.NewInt(3))
		third := k.inverse(k.mod(big.NewInt(3)))
		got := algebra.InvertAll(zero, three, zero, three)
		k.all(t, "InvertAll", got, api.OK, []*big.Int{new(big.Int), third, new(big.Int), third})
	}
}

func ringLaws[T algebra.Ring[T]](t *testing.T, k kind[T]) {
	t.Helper()
	m := sample.Maker(66)
	for count := range 20 {
		x, y := k.any(&m), k.any(&m)
		a, b, c, d := k.list(&m, count), k.list(&m, count), k.list(&m, count), k.list(&m, (count+7)%9)

		product := algebra.Eval(c, x).Mul(algebra.Eval(d, x))
		k.one(t, "Eval of a product", algebra.Eval(algebra.Product(c, d), x), k.number(product))

		powers, _ := algebra.Powers(x, count)
		inner, _ := algebra.Inner(powers, c)
		k.one(t, "Inner of powers", inner, k.number(algebra.Eval(c, x)))

		mixed, _ := algebra.Mix(x, a, y, b)
		both, _ := algebra.Inner(mixed, c)
		turned, _ := algebra.Inner(c, mixed)
		ac, _ := algebra.Inner(a, c)
		bc, _ := algebra.Inner(b, c)
		sum := x.Mul(ac).Add(y.Mul(bc))
		k.one(t, "Inner of a mix", both, k.number(sum))
		k.one(t, "Inner with a mix", turned, k.number(sum))
	}
}

func TestP608Laws(t *testing.T) {
	ringLaws(t, scalars())
	ringLaws(t, elems())
	ringLaws(t, octets())
	ringLaws(t, helds[two]())
	ringLaws(t, helds[twelve]())
}

func TestP608InterpolateUndoesEval(t *testing.T) {
	undone(t, scalars(), 12)
	undone(t, elems(), 12)
	undone(t, helds[seven](), 7)
	undone(t, helds[two](), 2)
}

func undone[T algebra.Field[T]](t *testing.T, k kind[T], most int) {
	t.Helper()
	m := sample.Maker(67)
	for count := range most + 1 {
		for range 10 {
			xs := k.places(&m, count)
			c := k.list(&m, count)
			ys := make([]T, count)
			for i := range ys {
				ys[i] = algebra.Eval(c, xs[i])
			}
			back, e := algebra.Interpolate(xs, ys)
			k.all(t, "Interpolate behind Eval", back, e, k.numbers(c))
		}
	}
}

// places: so many that are unlike each other.
func (k kind[T]) places(m *sample.Maker, count int) []T {
	var places []T
	for len(places) < count {
		x := k.any(m)
		if !slices.ContainsFunc(places, func(y T) bool { return k.number(x).Cmp(k.number(y)) == 0 }) {
			places = append(places, x)
		}
	}
	return places
}
