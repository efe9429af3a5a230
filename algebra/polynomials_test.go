package algebra_test

import (
	"math"
	"math/big"
	"testing"

	"veil/algebra"
	"veil/api"
	"veil/sample"
)

func powers[T algebra.Ring[T]](t *testing.T, k kind[T]) {
	t.Helper()
	m := sample.Maker(71)
	xs := append(k.looks(new(big.Int)), k.small(&m, 0, 1, -1, 2, 3, 5)...)
	for _, x := range append(xs, k.list(&m, 5)...) {
		for _, n := range []int{0, 1, 2, 3, 17, 64} {
			want := make([]*big.Int, n)
			for i := range want {
				want[i] = k.power(k.number(x), i)
			}
			list, e := algebra.Powers(x, n)
			k.all(t, "Powers", list, e, want)
		}
	}
}

func TestP603Powers(t *testing.T) {
	powers(t, scalars())
	powers(t, elems())
	powers(t, octets())
	powers(t, helds[two]())
	powers(t, helds[twelve]())
}

func mostPowers[T algebra.Ring[T]](t *testing.T, k kind[T]) {
	t.Helper()
	m := sample.Maker(72)
	for _, x := range append(k.small(&m, 0, 1, -1, 2), k.any(&m)) {
		list, e := algebra.Powers(x, api.MaxVector)
		if len(list) != 4096 || e != api.OK {
			t.Fatalf("Powers by 4096: %d, error %d", len(list), e)
		}
		for i := 0; i < len(list); i += 45 {
			k.one(t, "one of 4096 powers", list[i], k.power(k.number(x), i))
		}
		k.one(t, "the last of 4096 powers", list[4095], k.power(k.number(x), 4095))

		for _, n := range []int{-1, -2, -4096, math.MinInt, 4097, 4098, 8192, 1 << 32, math.MaxInt} {
			list, e := algebra.Powers(x, n)
			refused(t, "Powers", list, e, api.ErrArg)
		}
	}
}

func TestP603Limits(t *testing.T) {
	mostPowers(t, scalars())
	mostPowers(t, elems())
	mostPowers(t, octets())
	mostPowers(t, helds[seven]())
}

// polynomials: without and with zeros at their ends, by all counts up to one.
func (k kind[T]) polynomials(m *sample.Maker, most int) [][]T {
	list := [][]T{nil, {}, k.small(m, 0), k.small(m, 0, 0, 0), k.small(m, 0, 0, 1), k.small(m, 1, 0, 0), k.small(m, 2, -1, 0, 0, 0), make([]T, 4)}
	for count := range most + 1 {
		list = append(list, k.list(m, count))
	}
	return list
}

func evals[T algebra.Ring[T]](t *testing.T, k kind[T]) {
	t.Helper()
	m := sample.Maker(73)
	for _, c := range k.polynomials(&m, 20) {
		for _, x := range append(k.small(&m, 0, 1, -1, 2), k.list(&m, 3)...) {
			k.one(t, "Eval", algebra.Eval(c, x), k.eval(k.numbers(c), k.number(x)))
		}
	}
}

func TestP604Eval(t *testing.T) {
	evals(t, scalars())
	evals(t, elems())
	evals(t, octets())
	evals(t, helds[two]())
	evals(t, helds[twelve]())
}

// product: as the chapter's words say it.
func (k kind[T]) product(c, d []*big.Int) []*big.Int {
	if len(c) == 0 || len(d) == 0 {
		return nil
	}
	list := make([]*big.Int, len(c)+len(d)-1)
	for place := range list {
		list[place] = new(big.Int)
		for i := range c {
			if j := place - i; j >= 0 && j < len(d) {
				list[place].Add(list[place], new(big.Int).Mul(c[i], d[j]))
			}
		}
	}
	return list
}

func products[T algebra.Ring[T]](t *testing.T, k kind[T]) {
	t.Helper()
	m := sample.Maker(74)
	list := k.polynomials(&m, 9)
	for _, c := range list {
		for _, d := range list {
			k.all(t, "Product", algebra.Product(c, d), api.OK, k.product(k.numbers(c), k.numbers(d)))
		}
	}
}

func TestP604Product(t *testing.T) {
	products(t, scalars())
	products(t, elems())
	products(t, octets())
	products(t, helds[two]())
	products(t, helds[twelve]())
}

// In a ring that is no field the product of two last coefficients may be 0, and stays.
func TestP604ProductOfZeroDivisors(t *testing.T) {
	k := octets()
	k.all(t, "Product", algebra.Product([]octet{1, 16}, []octet{3, 32}), api.OK, bigs(3, 80, 0))
}

// meets: an answer of Interpolate must be as many coefficients as places, with these values at them.
func meets[T algebra.Field[T]](t *testing.T, k kind[T], xs, ys []T) {
	t.Helper()
	c, e := algebra.Interpolate(xs, ys)
	if e != api.OK || len(c) != len(xs) {
		t.Errorf("Interpolate of %d places, modulo %v: %d coefficients, error %d", len(xs), k.modulus, len(c), e)
		return
	}
	for i := range xs {
		if got := k.eval(k.numbers(c), k.number(xs[i])); got.Cmp(k.number(ys[i])) != 0 {
			t.Errorf("Interpolate of %d places, modulo %v: %v in place %d, want %v", len(xs), k.modulus, got, i, k.number(ys[i]))
		}
	}
}

func interpolations[T algebra.Field[T]](t *testing.T, k kind[T], most int) {
	t.Helper()
	m := sample.Maker(75)
	none, e := algebra.Interpolate[T](nil, []T{})
	k.all(t, "Interpolate of none", none, e, nil)
	for count := range most + 1 {
		for range 10 {
			meets(t, k, k.places(&m, count), k.list(&m, count))
		}
		same := make([]T, count)
		want := make([]*big.Int, count)
		for i := range same {
			same[i], want[i] = k.of(&m, big.NewInt(5)), new(big.Int)
		}
		if count > 0 {
			want[0].SetInt64(5)
		}
		c, e := algebra.Interpolate(k.places(&m, count), same)
		k.all(t, "Interpolate of one value", c, e, want)
		meets(t, k, k.places(&m, count), make([]T, count))
	}
}

func TestP606Interpolate(t *testing.T) {
	interpolations(t, scalars(), 12)
	interpolations(t, elems(), 12)
	interpolations(t, helds[two](), 2)
	interpolations(t, helds[three](), 3)
	interpolations(t, helds[seven](), 7)
}

func TestP606ManyPlaces(t *testing.T) {
	k := scalars()
	m := sample.Maker(76)
	meets(t, k, k.places(&m, 120), k.list(&m, 120))
}

func samePlaces[T algebra.Field[T]](t *testing.T, k kind[T], most int) {
	t.Helper()
	m := sample.Maker(77)
	for count := 2; count <= most; count++ {
		for i := range count {
			for j := range i {
				xs, ys := k.places(&m, count), k.list(&m, count)
				for _, look := range k.looks(k.number(xs[i])) {
					xs[j] = look
					ys[j] = ys[i]
					c, e := algebra.Interpolate(xs, ys)
					refused(t, "Interpolate with a place twice", c, e, api.ErrTwice)
				}
			}
		}
	}
}

func TestP606TwoPlacesTheSame(t *testing.T) {
	samePlaces(t, scalars(), 7)
	samePlaces(t, elems(), 7)
	samePlaces(t, helds[two](), 2)
	samePlaces(t, helds[seven](), 7)
	k := helds[two]()
	m := sample.Maker(78)
	c, e := algebra.Interpolate(k.small(&m, 0, 1, 0), k.small(&m, 0, 1, 0))
	refused(t, "Interpolate of more places than there are", c, e, api.ErrTwice)
}

func unlikePlaces[T algebra.Field[T]](t *testing.T, k kind[T]) {
	t.Helper()
	m := sample.Maker(79)
	for _, counts := range [][2]int{{0, 1}, {1, 0}, {1, 2}, {2, 1}, {5, 6}, {6, 5}} {
		for _, xs := range [][]T{k.places(&m, counts[0]), make([]T, counts[0])} {
			c, e := algebra.Interpolate(xs, k.list(&m, counts[1]))
			refused(t, "Interpolate of unlike lengths", c, e, api.ErrLength)
		}
	}
}

func TestP606UnlikeLengths(t *testing.T) {
	unlikePlaces(t, scalars())
	unlikePlaces(t, elems())
	unlikePlaces(t, helds[seven]())
}
