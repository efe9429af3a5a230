package circuit_test

// P1902, P1910: sums and their least form.

import (
	"fmt"
	"math/big"
	"slices"
	"testing"

	"veil/api"
	"veil/circuit"
	"veil/sample"
	"veil/scalar"
)

// strange: wires of any kind and number.
func strange() []circuit.Wire {
	var list []circuit.Wire
	edges := []int{-1 << 63, -5, -1, 0, 1, 2, 5, 6, 1024, 1<<63 - 1}
	for _, kind := range edges {
		for _, i := range edges {
			list = append(list, circuit.Wire{Kind: kind, I: i})
		}
	}
	return list
}

// sums: nil, with one wire many times, with factors 0, by any limbs, with wires of any kind.
func sums() []circuit.Lin {
	maker := sample.Maker(1902)
	m := &model{values: 3, gates: 5}
	list := []circuit.Lin{nil, {}, {term(0, unit)}, {term(1, left(0)), term(-1, left(0))}}
	for _, k := range sample.Scalars(big.NewInt(0)) {
		list = append(list, circuit.Lin{{Wire: left(1), K: k}})
	}
	for n := range 40 {
		list = append(list, m.someLin(&maker, n%12, n%2 == 0))
	}
	var same circuit.Lin
	for range 100 {
		same = append(same, circuit.Term{Wire: value(1), K: maker.Limbs(maker.Number())})
	}
	return append(list, same)
}

func TestP1902Of(t *testing.T) {
	for _, w := range append(strange(), unit, left(3), right(0), out(7), value(15)) {
		is(t, fmt.Sprint("Of ", w), circuit.Of(w), circuit.Term{Wire: w, K: scalar.Int(1)})
	}
}

func TestP1902Const(t *testing.T) {
	maker := sample.Maker(1)
	for n := range 60 {
		number := maker.Number()
		if n == 0 {
			number = new(big.Int)
		}
		for _, k := range sample.Scalars(number) {
			wantLin(t, fmt.Sprint("Const of ", k), circuit.Const(k), items([]item{{unit, number}}))
		}
	}
}

func TestP1902AddSub(t *testing.T) {
	for i, a := range sums() {
		for j, b := range sums() {
			what := fmt.Sprintf("sums %d and %d", i, j)
			wantLin(t, what+": Add", a.Add(b), items(append(asItems(a, 1), asItems(b, 1)...)))
			wantLin(t, what+": Sub", a.Sub(b), items(append(asItems(a, 1), asItems(b, -1)...)))
		}
	}
}

func TestP1902Times(t *testing.T) {
	maker := sample.Maker(2)
	for i, a := range sums() {
		for n := range 8 {
			number := maker.Number()
			if n < 3 {
				number = sample.Mod(big.NewInt(int64(n) - 1))
			}
			want := asItems(a, 1)
			for _, x := range want {
				x.k.Mul(x.k, number)
			}
			for _, k := range sample.Scalars(number) {
				wantLin(t, fmt.Sprintf("sum %d times %v", i, k), a.Times(k), items(want))
			}
		}
	}
}

func TestP1902Least(t *testing.T) {
	for i, a := range sums() {
		least := a.Least()
		wantLin(t, fmt.Sprintf("sum %d", i), least, leastItems(a))
		is(t, fmt.Sprintf("sum %d again", i), least.Least(), least...)
	}
}

// In whatever order terms come, and as often as it is asked, they are told by kind and number, as ints.
func TestP1902Order(t *testing.T) {
	maker := sample.Maker(3)
	var terms circuit.Lin
	for _, w := range strange() {
		terms = append(terms, circuit.Term{Wire: w, K: scalar.Int(7)})
	}
	want := terms.Least()
	if len(want) != len(terms) || want[0].Wire != (circuit.Wire{Kind: -1 << 63, I: -1 << 63}) || want[len(want)-1].Wire != (circuit.Wire{Kind: 1<<63 - 1, I: 1<<63 - 1}) {
		t.Fatalf("%v", want)
	}
	for i := range want[1:] {
		if !ahead(want[i].Wire, want[i+1].Wire) {
			t.Fatalf("%v stands ahead of %v", want[i].Wire, want[i+1].Wire)
		}
	}
	for range 30 {
		for i := range terms {
			j := maker.Next() % uint64(i+1)
			terms[i], terms[j] = terms[j], terms[i]
		}
		is(t, "in another order", terms.Least(), want...)
		is(t, "in two parts", terms[:50].Add(terms[50:]), want...)
		is(t, "less nothing", terms.Sub(nil), want...)
	}
}

// Wires that look alike are told apart: by kind, and by number.
func TestP1902Apart(t *testing.T) {
	a := circuit.Lin{term(1, left(2)), term(2, right(2)), term(3, left(3)), term(4, circuit.Wire{Kind: 1, I: 1}), term(5, unit), term(6, circuit.Wire{Kind: 3, I: -2})}
	is(t, "six wires", a.Least(), term(5, unit), term(4, circuit.Wire{Kind: 1, I: 1}), term(1, left(2)), term(3, left(3)), term(6, circuit.Wire{Kind: 3, I: -2}), term(2, right(2)))
}

// Long sums: many terms, many wires.
func TestP1902Long(t *testing.T) {
	var a circuit.Lin
	for i := range 200000 {
		a = append(a, circuit.Term{Wire: left(i % 5000), K: scalar.Int(uint64(i % 5000))})
	}
	least := a.Least()
	if len(least) != 4999 {
		t.Fatalf("%d terms", len(least))
	}
	for i, x := range least {
		if x != term(40*int64(i+1), left(i+1)) {
			t.Fatalf("term %d: %v", i, x)
		}
	}
	is(t, "less itself", a.Sub(a))
}

// Under every assignment that fits, sums are numbers.
func TestP1910Linear(t *testing.T) {
	maker := sample.Maker(1910)
	for values := range 4 {
		p := somePair(t, &maker, values, 12)
		for range 25 {
			a := p.model.someAssignment(&maker, false)
			x, y := p.model.someLin(&maker, 6, false), p.model.someLin(&maker, 6, false)
			k := maker.Limbs(maker.Number())
			eval := func(s circuit.Lin) scalar.Scalar {
				n, e := p.system.Eval(a, s)
				errno(t, "Eval", e, api.OK)
				return n
			}
			equal := func(what string, got circuit.Lin, want scalar.Scalar) {
				if eval(got) != want {
					t.Errorf("%s: %v, want %v", what, eval(got), want)
				}
			}
			p.eval(t, "x", a, x)
			equal("Add", x.Add(y), eval(x).Add(eval(y)))
			equal("Sub", x.Sub(y), eval(x).Sub(eval(y)))
			equal("Times", x.Times(k), eval(x).Mul(k))
			equal("Least", x.Least(), eval(x))
			equal("Const", circuit.Const(k), k.Least())
		}
	}
}

func TestP1910Wires(t *testing.T) {
	maker := sample.Maker(4)
	p := somePair(t, &maker, 3, 10)
	a := p.model.someAssignment(&maker, false)
	for w, want := range tableOf(a) {
		got, e := p.system.Eval(a, circuit.Of(w))
		if e != api.OK || got != sample.Scalar(want) {
			t.Errorf("%v: %v, %d", w, got, e)
		}
	}
}

// Two sums have the same least form just if their difference has no terms.
func TestP1910Same(t *testing.T) {
	var same, unlike int
	for i, a := range sums() {
		for j, b := range sums() {
			one := slices.Equal(a.Least(), b.Least())
			if one != (len(a.Sub(b)) == 0) {
				t.Errorf("sums %d and %d: the same is %v, their difference %v", i, j, one, a.Sub(b))
			}
			if one {
				same++
			} else {
				unlike++
			}
		}
		turned := slices.Clone(a)
		slices.Reverse(turned)
		if len(a.Sub(turned)) != 0 || len(a.Sub(a.Least())) != 0 {
			t.Errorf("sum %d less itself in another order, or less its least form", i)
		}
	}
	if same < len(sums()) || unlike < len(sums()) {
		t.Errorf("the sums are too much alike: %d, %d", same, unlike)
	}
}
