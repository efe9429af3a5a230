package circuit_test

// P1906, P1907, P1908: systems under assignments, and all requirements as one.

import (
	"fmt"
	"math/big"
	"slices"
	"testing"

	"veil/api"
	"veil/circuit"
	"veil/sample"
	"veil/scalar"
)

// unfit: an assignment with one scalar too few or too many in each list, none at all, or too many in one and too few in another.
func unfit(a circuit.Assignment) []circuit.Assignment {
	var all []circuit.Assignment
	lists := func(a *circuit.Assignment) []*[]scalar.Scalar {
		return []*[]scalar.Scalar{&a.L, &a.R, &a.O, &a.V}
	}
	for i := range 4 {
		more, fewer, none, moved := a, a, a, a
		list := lists(&more)[i]
		*list = append(slices.Clone(*list), num(3))
		all = append(all, more)
		if list = lists(&fewer)[i]; len(*list) > 0 {
			*list = (*list)[:len(*list)-1]
			*lists(&none)[i] = nil
			all = append(all, fewer, none)
			*lists(&moved)[i] = *list
			other := lists(&moved)[(i+1)%4]
			*other = append(slices.Clone(*other), num(3))
			all = append(all, moved)
		}
	}
	return all
}

func TestP1906Lengths(t *testing.T) {
	maker := sample.Maker(1906)
	for values := range 4 {
		p := somePair(t, &maker, values, 7)
		p.gate(t, "Gate")
		for i, a := range unfit(p.model.someAssignment(&maker, true)) {
			what := fmt.Sprintf("%d values, assignment %d", values, i)
			errno(t, what, p.holds(t, what, a), api.ErrLength)
			for _, x := range []circuit.Lin{nil, circuit.Of(unit), circuit.Of(left(0)), circuit.Of(left(99))} {
				errno(t, what, p.eval(t, what, a, x), api.ErrLength)
			}
		}
	}
	p := newPair(t, 0)
	errno(t, "nothing", p.holds(t, "nothing", circuit.Assignment{}), api.OK)
	errno(t, "a value", p.holds(t, "a value", circuit.Assignment{V: nums(0)}), api.ErrLength)
	errno(t, "7", p.eval(t, "7", circuit.Assignment{L: []scalar.Scalar{}}, circuit.Const(num(7))), api.OK)
}

func TestP1906Eval(t *testing.T) {
	maker := sample.Maker(7)
	answers := map[api.Errno]int{}
	for values := range 6 {
		p := somePair(t, &maker, values, 9)
		for n := range 120 {
			a := p.model.someAssignment(&maker, n%2 == 0)
			x := p.model.someLin(&maker, n%9, n%3 == 0)
			answers[p.eval(t, fmt.Sprint("Eval of ", x), a, x)]++
		}
	}
	if answers[api.OK] < 60 || answers[api.ErrWire] < 60 {
		t.Errorf("the answers are too much alike: %v", answers)
	}
}

// Wires at the edges: each that is there has its own number, no other one is taken, unless it falls out.
func TestP1906EvalWires(t *testing.T) {
	maker := sample.Maker(8)
	p := full(t, 3, 5, 0)
	a := p.model.someAssignment(&maker, false)
	for kind := -1; kind <= 7; kind++ {
		for i := -2; i <= 7; i++ {
			w := circuit.Wire{Kind: kind, I: i}
			p.eval(t, fmt.Sprint(w), a, circuit.Of(w))
			x := circuit.Lin{term(4, w), term(9, unit), term(-4, w)}
			errno(t, fmt.Sprint(w, " falls out"), p.eval(t, fmt.Sprint(w, " falls out"), a, x), api.OK)
		}
	}
	for _, w := range strange() {
		p.eval(t, fmt.Sprint(w), a, circuit.Of(w))
	}
}

// Each gate alone, each requirement alone, and both.
func TestP1906Holds(t *testing.T) {
	p := newPair(t, 2)
	p.multiply(t, "Multiply", circuit.Of(value(0)), circuit.Of(value(1)))
	p.multiply(t, "Multiply", circuit.Of(out(2)).Add(circuit.Const(num(1))), circuit.Of(left(1)))
	p.require(t, "Require", circuit.Of(out(3)).Sub(circuit.Const(num(80))))
	holds := func() circuit.Assignment {
		return circuit.Assignment{L: nums(3, 5, 3, 16), R: nums(0, 2, 5, 5), O: nums(0, 10, 15, 80), V: nums(3, 5)}
	}
	errno(t, "as it is", p.holds(t, "as it is", holds()), api.OK)
	for i := range 4 {
		a := holds()
		a.O[i] = a.O[i].Add(num(1))
		errno(t, "a gate", p.holds(t, fmt.Sprint("gate ", i), a), api.ErrGate)
		a.V[0] = num(7)
		errno(t, "a gate and a value", p.holds(t, "a gate and a value", a), api.ErrGate)
		a.V = nums(7)
		errno(t, "a gate, a value, a length", p.holds(t, "a gate, a value, a length", a), api.ErrLength)
	}
	for j := range 2 {
		a := holds()
		a.V[j] = a.V[j].Add(num(1))
		errno(t, "a value", p.holds(t, fmt.Sprint("value ", j), a), api.ErrRequire)
	}
	for i := range 4 {
		a := holds()
		a.L[i] = a.L[i].Add(num(1))
		a.O[i] = a.L[i].Mul(a.R[i])
		errno(t, "a left wire", p.holds(t, fmt.Sprint("left wire ", i), a), api.ErrRequire)
		b := holds()
		b.R[i] = b.R[i].Add(num(1))
		b.O[i] = b.L[i].Mul(b.R[i])
		want := api.ErrRequire
		if i < 2 { // nothing is asked of it
			want = api.OK
		}
		errno(t, "a right wire", p.holds(t, fmt.Sprint("right wire ", i), b), want)
	}
	for _, n := range []int64{0, -1, 2} {
		a := holds()
		for _, list := range [][]scalar.Scalar{a.L, a.R, a.O, a.V} {
			for i := range list {
				list[i] = sample.Scalars(sample.NumberOf(list[i]))[(int(n)+i+9)%9]
			}
		}
		errno(t, "by any limbs", p.holds(t, "by any limbs", a), api.OK)
	}
}

// A requirement that nobody meets, wherever it stands.
func TestP1906EachRequirement(t *testing.T) {
	for at := range 6 {
		p := newPair(t, 0)
		for i := range 6 {
			a := circuit.Lin(nil)
			if i == at {
				a = circuit.Const(num(1))
			}
			p.require(t, "Require", a)
		}
		errno(t, "Holds", p.holds(t, fmt.Sprint("requirement ", at), circuit.Assignment{}), api.ErrRequire)
	}
}

// solved: a system by Gates and Multiplys of any sums, and an assignment that holds in it.
func solved(t testing.TB, maker *sample.Maker, values, gates int) (pair, circuit.Assignment) {
	t.Helper()
	p := newPair(t, values)
	a := circuit.Assignment{V: someList(maker, values)}
	a.L = slices.Clone(a.V)
	a.R = someList(maker, values)
	for i := range a.L {
		a.O = append(a.O, a.L[i].Mul(a.R[i]))
	}
	for range gates {
		x, y := p.model.someLin(maker, 4, false), p.model.someLin(maker, 4, false)
		l, _ := p.system.Eval(a, x)
		r, _ := p.system.Eval(a, y)
		if p.multiply(t, "Multiply", x, y) != api.OK {
			t.Fatalf("Multiply")
		}
		a.L, a.R, a.O = append(a.L, l), append(a.R, r), append(a.O, l.Mul(r))
		z := p.model.someLin(maker, 3, false)
		n, _ := p.system.Eval(a, z)
		p.require(t, "Require", z.Sub(circuit.Const(n)))
	}
	return p, a
}

func TestP1906Solved(t *testing.T) {
	maker := sample.Maker(9)
	for values := range 8 {
		p, a := solved(t, &maker, values, 6)
		errno(t, "solved", p.holds(t, "solved", a), api.OK)
		for range 40 {
			other := p.model.someAssignment(&maker, maker.Next()%2 == 0)
			p.holds(t, "any other", other)
		}
	}
}

// zs: 0, 1, -1 and others, by any limbs.
func zs(maker *sample.Maker) []scalar.Scalar {
	list := slices.Concat(sample.Scalars(big.NewInt(0)), sample.Scalars(big.NewInt(1)), sample.Scalars(big.NewInt(2)), nums(-1, 3, -2))
	return append(list, someList(maker, 6)...)
}

func TestP1907Flatten(t *testing.T) {
	maker := sample.Maker(1907)
	list := append(systems(t), full(t, 0, 0, 40), full(t, 16, 40, 16), full(t, 16, 1024, 4096))
	for i, p := range list {
		for _, z := range zs(&maker) {
			if p.model.gates < 1024 || z[0] < 3 {
				p.flatten(t, fmt.Sprintf("system %d, z = %v", i, z), z)
			}
		}
		p.same(t, "behind Flatten")
	}
}

func TestP1907LongestSums(t *testing.T) {
	p := full(t, 16, 1024, 16)
	for n := range 5 {
		p.require(t, "Require", longest(int64(n+1)))
	}
	w := p.flatten(t, "Flatten", num(-9))
	if len(w.L) != 1024 || len(w.R) != 1024 || len(w.O) != 1024 || len(w.V) != 16 {
		t.Errorf("the lists have %d, %d, %d, %d scalars", len(w.L), len(w.R), len(w.O), len(w.V))
	}
	maker := sample.Maker(10)
	p.eval(t, "Eval", p.model.someAssignment(&maker, false), longest(7))
}

// weighted: the sum of z^(q + 1) times requirement q, by Requirement and Eval.
func weighted(t testing.TB, s *circuit.System, a circuit.Assignment, z scalar.Scalar) scalar.Scalar {
	t.Helper()
	var sum scalar.Scalar
	for q := range s.Requires() {
		x, _ := s.Requirement(q)
		n, e := s.Eval(a, x)
		errno(t, "Eval", e, api.OK)
		sum = sum.Add(z.Power(uint64(q + 1)).Mul(n))
	}
	return sum
}

// The two sides differ by the requirements' weighted sum under every assignment that fits.
func TestP1907Sides(t *testing.T) {
	maker := sample.Maker(11)
	for i, p := range systems(t) {
		for n, z := range zs(&maker) {
			a := p.model.someAssignment(&maker, n%2 == 0)
			w, e := p.system.Flatten(z)
			errno(t, "Flatten", e, api.OK)
			first, second := sides(w, a)
			if first.Sub(second) != weighted(t, p.system, a, z) {
				t.Errorf("system %d, z = %v: %v and %v", i, z, first, second)
			}
		}
	}
}

// alike: at how many of these places are the two sides the same?
func alike(t testing.TB, s *circuit.System, a circuit.Assignment, places []scalar.Scalar) int {
	t.Helper()
	count := 0
	for _, z := range places {
		w, e := s.Flatten(z)
		errno(t, "Flatten", e, api.OK)
		if first, second := sides(w, a); first == second {
			count++
		}
	}
	return count
}

// upTo: the places 1, 2, .., n.
func upTo(n int) []scalar.Scalar {
	var list []scalar.Scalar
	for i := range n {
		list = append(list, num(int64(i+1)))
	}
	return list
}

func TestP1908Holds(t *testing.T) {
	maker := sample.Maker(1908)
	for values := range 5 {
		p, a := solved(t, &maker, values, 4)
		errno(t, "solved", p.holds(t, "solved", a), api.OK)
		places := append(zs(&maker), upTo(p.system.Requires())...)
		if alike(t, p.system, a, places) != len(places) {
			t.Errorf("%d values: the sides are not the same everywhere", values)
		}
	}
}

// Where the gates multiply and the sides are the same at as many places as there are requirements, all are met; where they do not, at fewer.
func TestP1908Places(t *testing.T) {
	maker := sample.Maker(12)
	met, unmet := 0, 0
	for range 60 {
		p, a := solved(t, &maker, int(maker.Next()%3), 1+int(maker.Next()%3))
		if maker.Next()%2 == 0 {
			at := maker.Next() % uint64(len(a.L))
			a.L[at] = a.L[at].Add(num(1))
			a.O[at] = a.L[at].Mul(a.R[at])
		}
		q := p.system.Requires()
		all := alike(t, p.system, a, upTo(q)) == q
		holds := p.holds(t, "Holds", a) == api.OK
		if all != holds {
			t.Errorf("the same at all %d places is %v, Holds %v", q, all, holds)
		}
		if holds {
			met++
		} else {
			unmet++
		}
	}
	if met < 10 || unmet < 10 {
		t.Errorf("%d met, %d not", met, unmet)
	}
}

// vanishing: the coefficients of the polynomial that is 0 at 1, 2, .., n just once each, the constant one first.
func vanishing(n int) []scalar.Scalar {
	c := nums(1)
	for _, root := range upTo(n) {
		next := make([]scalar.Scalar, len(c)+1)
		for i := range c {
			next[i+1] = next[i+1].Add(c[i])
			next[i] = next[i].Sub(root.Mul(c[i]))
		}
		c = next
	}
	return c
}

// One place fewer is not enough: requirements that are not met, and sides that are the same at Q - 1 places, but not at another one.
func TestP1908OnePlaceFewer(t *testing.T) {
	for q := 1; q <= 20; q++ {
		p := newPair(t, 0)
		for _, c := range vanishing(q - 1) {
			p.require(t, "Require", circuit.Const(c))
		}
		places := upTo(q + 5)
		if n := alike(t, p.system, circuit.Assignment{}, places); n != q-1 || alike(t, p.system, circuit.Assignment{}, places[:q-1]) != q-1 {
			t.Errorf("%d requirements: the same at %d places", q, n)
		}
		errno(t, "Holds", p.holds(t, "Holds", circuit.Assignment{}), api.ErrRequire)
	}
	// The same with values that do not enter as they are, by as much as the coefficients say.
	p := newPair(t, 16)
	a := circuit.Assignment{L: vanishing(15), R: make([]scalar.Scalar, 16), O: make([]scalar.Scalar, 16), V: make([]scalar.Scalar, 16)}
	if n := alike(t, p.system, a, upTo(20)); n != 15 {
		t.Errorf("16 values: the same at %d places", n)
	}
	// At 0 they are always the same.
	if alike(t, p.system, a, nums(0)) != 1 {
		t.Errorf("at 0")
	}
}
