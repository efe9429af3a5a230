package algebra_test

// What the tests of this package count in, and what they hold the answers against: numbers of math/big, which know nothing of rings.

import (
	"math/big"
	"slices"
	"testing"

	"veil/algebra"
	"veil/api"
	"veil/field"
	"veil/sample"
	"veil/scalar"
)

// octet: the integers modulo 256: a ring that is no field, and has no Invert.
type octet uint8

func (a octet) Add(b octet) octet { return a + b }
func (a octet) Sub(b octet) octet { return a - b }
func (a octet) Mul(b octet) octet { return a * b }
func (a octet) One() octet        { return 1 }
func (a octet) IsZero() bool      { return a == 0 }

// size: how many elements a ring of type held has.
type size interface{ count() uint64 }

type (
	two    struct{}
	three  struct{}
	seven  struct{}
	twelve struct{}
)

func (two) count() uint64    { return 2 }
func (three) count() uint64  { return 3 }
func (seven) count() uint64  { return 7 }
func (twelve) count() uint64 { return 12 }

// held: the sum of its numbers, modulo the size: it holds memory, can't be compared, and many stand for one element. Each method answers new memory.
type held[S size] struct{ numbers []uint64 }

func (a held[S]) least() uint64 {
	var s S
	sum := uint64(0)
	for _, n := range a.numbers {
		sum += n
	}
	return sum % s.count()
}

func newHeld[S size](n uint64) held[S] {
	var s S
	return held[S]{[]uint64{n % s.count()}}
}

func (a held[S]) Add(b held[S]) held[S] { return newHeld[S](a.least() + b.least()) }
func (a held[S]) Mul(b held[S]) held[S] { return newHeld[S](a.least() * b.least()) }
func (a held[S]) One() held[S]          { return newHeld[S](1) }
func (a held[S]) IsZero() bool          { return a.least() == 0 }

func (a held[S]) Sub(b held[S]) held[S] {
	var s S
	return newHeld[S](a.least() + s.count() - b.least())
}

func (a held[S]) Invert() held[S] {
	var s S
	for n := range s.count() {
		if b := newHeld[S](n); a.Mul(b).least() == 1 {
			return b
		}
	}
	return newHeld[S](0)
}

// kind: the integers modulo a number, by elements of type T.
type kind[T algebra.Ring[T]] struct {
	modulus *big.Int
	looks   func(n *big.Int) []T // all that stand for a number from 0 on, or some of them
	number  func(a T) *big.Int
}

func scalars() kind[scalar.Scalar] {
	return kind[scalar.Scalar]{sample.L(), sample.Scalars, func(a scalar.Scalar) *big.Int {
		b := a.Encode()
		return sample.Number(b[:])
	}}
}

func elems() kind[field.Elem] {
	looks := func(n *big.Int) []field.Elem {
		list := sample.Elems(n)
		return list[:]
	}
	return kind[field.Elem]{sample.P(), looks, func(a field.Elem) *big.Int {
		b := a.Encode()
		return sample.Number(b[:])
	}}
}

func octets() kind[octet] {
	return kind[octet]{
		big.NewInt(256),
		func(n *big.Int) []octet { return []octet{octet(n.Uint64())} },
		func(a octet) *big.Int { return big.NewInt(int64(a)) },
	}
}

func helds[S size]() kind[held[S]] {
	var s S
	return kind[held[S]]{
		new(big.Int).SetUint64(s.count()),
		func(n *big.Int) []held[S] {
			least := n.Uint64()
			list := []held[S]{{[]uint64{least}}, {[]uint64{least, s.count()}}, {[]uint64{s.count() - 1, least, 1}}}
			if least == 0 {
				list = append(list, held[S]{})
			}
			return list
		},
		func(a held[S]) *big.Int { return new(big.Int).SetUint64(a.least()) },
	}
}

// mod: the number from 0 to the modulus - 1.
func (k kind[T]) mod(n *big.Int) *big.Int { return new(big.Int).Mod(n, k.modulus) }

// of: the element of a number, by one of its looks.
func (k kind[T]) of(m *sample.Maker, n *big.Int) T {
	looks := k.looks(k.mod(n))
	return looks[m.Next()%uint64(len(looks))]
}

// small: elements of small numbers, by one of their looks each.
func (k kind[T]) small(m *sample.Maker, ns ...int64) []T {
	list := make([]T, len(ns))
	for i, n := range ns {
		list[i] = k.of(m, big.NewInt(n))
	}
	return list
}

// any: an element; 0, 1 and -1 come up often.
func (k kind[T]) any(m *sample.Maker) T {
	if pick := m.Next() % 8; pick < 3 {
		return k.of(m, big.NewInt(int64(pick)-1))
	}
	return k.of(m, sample.Number(m.Bytes(40)))
}

// list: so many elements.
func (k kind[T]) list(m *sample.Maker, count int) []T {
	list := make([]T, count)
	for i := range list {
		list[i] = k.any(m)
	}
	return list
}

// numbers: of all of a list.
func (k kind[T]) numbers(list []T) []*big.Int {
	numbers := make([]*big.Int, len(list))
	for i, a := range list {
		numbers[i] = k.number(a)
	}
	return numbers
}

// inner: of two lists that are as long as each other.
func (k kind[T]) inner(a, b []*big.Int) *big.Int {
	sum := new(big.Int)
	for i := range a {
		sum.Add(sum, new(big.Int).Mul(a[i], b[i]))
	}
	return k.mod(sum)
}

// power: x to the power e.
func (k kind[T]) power(x *big.Int, e int) *big.Int {
	return new(big.Int).Exp(x, big.NewInt(int64(e)), k.modulus)
}

// eval: as the chapter's words say it.
func (k kind[T]) eval(c []*big.Int, x *big.Int) *big.Int {
	sum := new(big.Int)
	for i, n := range c {
		sum.Add(sum, new(big.Int).Mul(n, k.power(x, i)))
	}
	return k.mod(sum)
}

// one: an answer must be the element of a number.
func (k kind[T]) one(t *testing.T, what string, got T, want *big.Int) {
	t.Helper()
	if k.number(got).Cmp(k.mod(want)) != 0 {
		t.Errorf("%s, modulo %v: %v, want %v", what, k.modulus, k.number(got), k.mod(want))
	}
}

// all: an answer must be OK and the elements of these numbers.
func (k kind[T]) all(t *testing.T, what string, got []T, e api.Errno, want []*big.Int) {
	t.Helper()
	same := func(a, b *big.Int) bool { return a.Cmp(k.mod(b)) == 0 }
	if e != api.OK || !slices.EqualFunc(k.numbers(got), want, same) {
		t.Errorf("%s, modulo %v: %v, error %d, want %v", what, k.modulus, k.numbers(got), e, want)
	}
}

// refused: an answer must be this error, and no list.
func refused[T any](t *testing.T, what string, got []T, e, want api.Errno) {
	t.Helper()
	if e != want || len(got) != 0 {
		t.Errorf("%s: %v, error %d, want error %d alone", what, got, e, want)
	}
}

// bigs: small numbers as numbers of math/big.
func bigs(ns ...int64) []*big.Int {
	list := make([]*big.Int, len(ns))
	for i, n := range ns {
		list[i] = big.NewInt(n)
	}
	return list
}
