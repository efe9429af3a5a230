package algebra_test

// P601, and the document's rules: what is handed in is left alone, what is handed out is new, and all calls end.

import (
	"slices"
	"testing"

	"veil/algebra"
	"veil/api"
	"veil/sample"
	"veil/scalar"
)

type seventh = held[seven]

// answer: what a call answers to two lists of four elements and four rows, and how many elements that must be.
type answer struct {
	name  string
	count int
	list  func(a, b []seventh, rows [][]seventh) []seventh
}

// every: each call of the package.
func every() []answer {
	first := func(list []seventh, _ api.Errno) []seventh { return list }
	return []answer{
		{"Sum", 2, func(a, b []seventh, _ [][]seventh) []seventh { return []seventh{algebra.Sum(a...), algebra.Sum(b...)} }},
		{"Sum of one", 2, func(a, b []seventh, _ [][]seventh) []seventh { return []seventh{algebra.Sum(a[0]), algebra.Sum(a[0])} }},
		{"Inner", 1, func(a, b []seventh, _ [][]seventh) []seventh {
			x, _ := algebra.Inner(a, b)
			return []seventh{x}
		}},
		{"Each", 4, func(a, b []seventh, _ [][]seventh) []seventh { return first(algebra.Each(a, b)) }},
		{"Mix", 4, func(a, b []seventh, _ [][]seventh) []seventh { return first(algebra.Mix(a[0], a, b[0], b)) }},
		{"Powers", 5, func(a, b []seventh, _ [][]seventh) []seventh { return first(algebra.Powers(a[1], 5)) }},
		{"Eval", 1, func(a, b []seventh, _ [][]seventh) []seventh { return []seventh{algebra.Eval(a, b[0])} }},
		{"Eval of one", 1, func(a, b []seventh, _ [][]seventh) []seventh { return []seventh{algebra.Eval(a[:1], b[0])} }},
		{"Product", 7, func(a, b []seventh, _ [][]seventh) []seventh { return algebra.Product(a, b) }},
		{"Product of one", 1, func(a, b []seventh, _ [][]seventh) []seventh { return algebra.Product(a[:1], b[:1]) }},
		{"InvertAll", 4, func(a, b []seventh, _ [][]seventh) []seventh { return algebra.InvertAll(a...) }},
		{"InvertAll of one", 1, func(a, b []seventh, _ [][]seventh) []seventh { return algebra.InvertAll(b[0]) }},
		{"Interpolate", 4, func(a, b []seventh, _ [][]seventh) []seventh { return first(algebra.Interpolate(a, b)) }},
		{"Interpolate of one", 1, func(a, b []seventh, _ [][]seventh) []seventh { return first(algebra.Interpolate(a[:1], b[:1])) }},
		{"Interpolate of a place twice", 0, func(a, b []seventh, _ [][]seventh) []seventh { return first(algebra.Interpolate(b, a)) }},
		{"Solve", 4, func(a, b []seventh, rows [][]seventh) []seventh { return first(algebra.Solve(rows, a)) }},
		{"Solve of one", 1, func(a, b []seventh, rows [][]seventh) []seventh {
			return first(algebra.Solve([][]seventh{b[:1]}, a[:1]))
		}},
		{"Solve of what is singular", 0, func(a, b []seventh, rows [][]seventh) []seventh {
			return first(algebra.Solve([][]seventh{a, b, b, a}, a))
		}},
	}
}

// places: where the numbers of all elements stand.
func places(lists ...[]seventh) []*uint64 {
	var list []*uint64
	for _, elements := range lists {
		for _, a := range elements {
			for i := range a.numbers {
				list = append(list, &a.numbers[i])
			}
		}
	}
	return list
}

func TestP601Memory(t *testing.T) {
	for _, call := range every() {
		// The lists lie in one room, with room behind them, and the elements hold memory themselves.
		k := helds[seven]()
		m := sample.Maker(91)
		room := k.small(&m, 3, 0, 5, 6, 9, 4, 2, 4, 1, 8, 0, 1, 2, 0, 9, 2, 0, 1, 1, 9, 0, 5, 0, 3, 9, 1, 1, 1, 4, 9)
		a, b := room[0:4], room[5:9]
		rows := [][]seventh{room[10:14], room[15:19], room[20:24], room[25:29]}
		given, slots := slices.Clone(room), places(room)
		numbers := make([]uint64, len(slots))
		for i, slot := range slots {
			numbers[i] = *slot
		}

		got := call.list(a, b, rows)
		again := call.list(a, b, rows)
		if len(got) != call.count {
			t.Errorf("%s: %d elements", call.name, len(got))
		}
		k.all(t, call.name+" once more", again, api.OK, k.numbers(got))
		for i, slot := range places(got, again) {
			if slices.Contains(slots, slot) || slices.Contains(places(got, again)[:i], slot) {
				t.Errorf("%s: elements share memory", call.name)
			}
		}
		want := k.numbers(again)
		for i := range got {
			got[i] = newHeld[seven](k.number(got[i]).Uint64() + 1)
		}
		got = append(got, newHeld[seven](1))
		k.all(t, call.name+" behind writing into another answer", again, api.OK, want)

		if !slices.Equal(places(room), slots) || !slices.EqualFunc(given, room, func(a, b seventh) bool { return slices.Equal(a.numbers, b.numbers) }) {
			t.Errorf("%s: a list that was handed in, or the room behind it, has changed", call.name)
		}
		for i, slot := range slots {
			if *slot != numbers[i] {
				t.Errorf("%s: an element that was handed in has changed", call.name)
			}
		}
	}
}

// Of elements without memory the lists alone are looked at.
func TestP601ListsOfScalars(t *testing.T) {
	k := scalars()
	m := sample.Maker(92)
	room := k.places(&m, 50)
	was := slices.Clone(room)
	a, b := room[0:6], room[7:13]
	rows := [][]scalar.Scalar{room[14:20], room[20:26], room[26:32], room[32:38], room[38:44], room[44:50]}
	ask := func() [][]scalar.Scalar {
		each, _ := algebra.Each(a, b)
		mix, _ := algebra.Mix(a[0], a, b[0], b)
		powers, _ := algebra.Powers(a[0], 6)
		polynomial, _ := algebra.Interpolate(a, b)
		x, _ := algebra.Solve(rows, a)
		return [][]scalar.Scalar{each, mix, powers, polynomial, x, algebra.Product(a, b), algebra.InvertAll(a...)}
	}
	first, second := ask(), ask()
	for i, list := range first {
		if len(list) < 6 {
			t.Errorf("answer %d has %d elements", i, len(list))
		}
		for j := range list {
			list[j] = scalar.Int(99)
		}
		list = append(list, scalar.Int(99))
	}
	if third := ask(); !slices.EqualFunc(second, third, slices.Equal[[]scalar.Scalar]) {
		t.Errorf("what was written into an answer is seen in another")
	}
	if !slices.Equal(room, was) {
		t.Errorf("a list that was handed in, or the room behind it, has changed")
	}
}

// wild: no ring at all: nothing that its methods answer fits together.
type wild uint8

func (a wild) Add(b wild) wild { return a ^ b*3 + 1 }
func (a wild) Sub(b wild) wild { return a*5 + b }
func (a wild) Mul(b wild) wild { return a<<1 ^ b>>1 }
func (a wild) One() wild       { return a + 7 }
func (a wild) IsZero() bool    { return a%3 == 0 }
func (a wild) Invert() wild    { return a ^ 0x55 }

// nothing: a ring of one element, which is its 0 and its 1; no field, though it has an Invert.
type nothing struct{}

func (a nothing) Add(b nothing) nothing { return a }
func (a nothing) Sub(b nothing) nothing { return a }
func (a nothing) Mul(b nothing) nothing { return a }
func (a nothing) One() nothing          { return a }
func (a nothing) IsZero() bool          { return true }
func (a nothing) Invert() nothing       { return a }

// never: says of no element that it is 0.
type never struct{ nothing }

func (a never) Add(b never) never { return b }
func (a never) Sub(b never) never { return b }
func (a never) Mul(b never) never { return b }
func (a never) One() never        { return a }
func (a never) IsZero() bool      { return false }
func (a never) Invert() never     { return a }

func callAll[T algebra.Field[T]](list []T) {
	for n := range len(list) + 1 {
		for j := range len(list) + 1 {
			a, b := list[:n], list[j:]
			algebra.Sum(a...)
			algebra.Inner(a, b)
			algebra.Each(a, b)
			algebra.Product(a, b)
			algebra.InvertAll(b...)
			algebra.Interpolate(a, b)
			var x T
			algebra.Mix(x, a, x, b)
			algebra.Powers(x, n-j)
			algebra.Eval(a, x)
			algebra.Solve(slices.Repeat([][]T{a}, len(b)), b)
			algebra.Solve(slices.Repeat([][]T{b}, len(b)), b)
		}
	}
}

// A panic in any call fails the test.
func TestP601EveryCallEndsOverAnyType(t *testing.T) {
	m := sample.Maker(93)
	for range 50 {
		list := make([]wild, 6)
		for i := range list {
			list[i] = wild(m.Next())
		}
		callAll(list)
	}
	callAll(make([]nothing, 6))
	callAll(make([]never, 6))
	callAll(helds[twelve]().list(&m, 6))
	callAll(helds[seven]().list(&m, 6))
	callAll(scalars().list(&m, 4))
	callAll(elems().list(&m, 4))
}
