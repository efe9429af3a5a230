package gadget_test

// P2001 to P2003: desks that nobody made, desks that know and that do not, values and numbers.

import (
	"bytes"
	"fmt"
	"math/big"
	"slices"
	"testing"

	"veil/api"
	"veil/circuit"
	"veil/gadget"
	"veil/sample"
	"veil/scalar"
)

// A nil desk, and one that neither Known nor Unknown made: ErrArg, whatever else is wrong.
func TestP2001NoDesk(t *testing.T) {
	x, bad := number(3), of(left(0))
	calls := []call{
		productCall(), shuffleCall(nil, nil, num(1)), shuffleCall([]circuit.Lin{x}, nil, num(1)), shuffleCall([]circuit.Lin{bad}, nil, num(1)),
		memberCall(x, nil), powerCall(x, -1), bitsCall(x, 0), bitsCall(bad, 253), lessCall(x, x, 0), lessCall(bad, x, 252),
	}
	for _, k := range kinds() {
		for _, y := range []circuit.Lin{x, bad, nil} {
			calls = append(calls, k.call(slices.Repeat([]circuit.Lin{y}, k.sums)...))
		}
	}
	for what, d := range map[string]*gadget.Desk{"nil": nil, "zero": {}, "new": new(gadget.Desk)} {
		for range 2 { // and it stays so
			for _, c := range calls {
				answers, e := c.do(d)
				errno(t, what+": "+c.name, e, api.ErrArg)
				if len(answers) != 0 {
					t.Errorf("%s: %s: %v beside an error", what, c.name, answers)
				}
			}
			for _, j := range []int{-1, 0, 1} {
				x, e := d.Value(j)
				errno(t, what+": Value", e, api.ErrArg)
				if x != nil {
					t.Errorf("%s: Value tells %v", what, x)
				}
			}
			for _, y := range []circuit.Lin{nil, x, bad} {
				if n, ok := d.Number(y); ok || n != (scalar.Scalar{}) {
					t.Errorf("%s: Number tells %v, %v", what, n, ok)
				}
			}
			if a, ok := d.Assignment(); ok || !sameAssignment(a, circuit.Assignment{}) || d.System() != nil {
				t.Errorf("%s: something is told", what)
			}
		}
	}
}

// A desk of nothing is one all the same.
func TestP2001DeskOfNothing(t *testing.T) {
	p := newDesks(t)
	if p.known.System() == nil || p.unknown.System() == nil {
		t.Fatal("it counts as none")
	}
	p.told(t, "Product()", p.ok(t, productCall())[0], 1)
	p.told(t, "Multiply", p.ok(t, multiplyCall(number(6), number(7)))[0], 42)
	p.ok(t, shuffleCall(nil, nil, num(3)))
	p.ok(t, zeroCall(nil))
	p.more(t, "of nothing", 1, 3)
	p.holds(t, "of nothing", api.OK)
}

func TestP2002HowMany(t *testing.T) {
	for n := range 17 {
		p := newDesks(t, nums(make([]int64, n)...)...)
		p.more(t, "at the beginning", 0, 0)
		if p.known.System().Values() != n || p.unknown.System().Values() != n {
			t.Errorf("%d values: there are others", n)
		}
		p.holds(t, "at the beginning", api.OK)
	}
	for _, n := range []int{17, 18, 1000} {
		if d, e := gadget.Known(make([]scalar.Scalar, n)...); d != nil || e != api.ErrArg {
			t.Errorf("Known of %d values: %v, %d", n, d, e)
		}
	}
	for _, n := range []int{-1 << 63, -17, -1, 17, 18, 1 << 32, 1<<63 - 1} {
		if d, e := gadget.Unknown(n); d != nil || e != api.ErrArg {
			t.Errorf("Unknown(%d): %v, %d", n, d, e)
		}
	}
	if d, e := gadget.Known([]scalar.Scalar{}...); d == nil || e != api.OK {
		t.Errorf("Known of an empty list: %v, %d", d, e)
	}
}

// The gates by which the values enter: left the value, right 0, output 0, by least limbs.
func TestP2002Entries(t *testing.T) {
	maker := sample.Maker(2002)
	for n := range 17 {
		values := someSet(&maker, n)
		p := newDesks(t, values...)
		a, ok := p.known.Assignment()
		if !ok || len(a.L) != n || len(a.R) != n || len(a.O) != n || len(a.V) != n {
			t.Fatalf("%d values: %v, %v", n, a, ok)
		}
		for j, v := range values {
			if least := v.Least(); a.V[j] != least || a.L[j] != least || a.R[j] != (scalar.Scalar{}) || a.O[j] != (scalar.Scalar{}) {
				t.Errorf("value %d: %v, %v, %v, %v", j, a.V[j], a.L[j], a.R[j], a.O[j])
			}
		}
		p.holds(t, "at the beginning", api.OK)
	}
}

// Any calls, in any order, each held against what must be: on a desk that knows and on one that does not.
func TestP2002AnyCalls(t *testing.T) {
	maker := sample.Maker(5)
	for values := range 17 {
		p := newDesks(t, someSet(&maker, values)...)
		for range 50 {
			p.run(t, p.model.someCall(&maker))
		}
	}
}

// What is built does not hang on the values: the same calls on desks that know unlike values.
func TestP2002ValuesDoNotCount(t *testing.T) {
	var first []byte
	for _, values := range [][]int64{{0, 0}, {1, 1}, {3, 5}, {5, 3}, {-1, 7}, {2, -1}} {
		p := small(t, values...)
		x, y := of(value(0)), of(value(1))
		for _, k := range kinds() {
			p.ok(t, k.call([]circuit.Lin{x, y, x, y, y, x}[:k.sums]...))
		}
		b := p.known.System().Encode()
		if first == nil {
			first = b
		}
		if !bytes.Equal(b, first) {
			t.Errorf("with %v another system was built", values)
		}
	}
}

func TestP2003Value(t *testing.T) {
	for n := range 17 {
		p := newDesks(t, nums(make([]int64, n)...)...)
		for i, d := range p.both() {
			for j := range n {
				x, e := d.Value(j)
				if e != api.OK || !slices.Equal(x, circuit.Lin{term(1, value(j))}) {
					t.Errorf("desk %d of %d: Value(%d) is %v, %d", i, n, j, x, e)
				}
			}
			for _, j := range []int{-1 << 63, -1, n, n + 1, 16, 17, 1 << 32, 1<<63 - 1} {
				if x, e := d.Value(j); j != 16 && (x != nil || e != api.ErrArg) {
					t.Errorf("desk %d of %d: Value(%d) is %v, %d", i, n, j, x, e)
				}
			}
		}
		// A gate more is not a value more.
		p.ok(t, multiplyCall(nil, nil))
		if x, e := p.known.Value(n); x != nil || e != api.ErrArg {
			t.Errorf("of %d: Value(%d) is %v, %d", n, n, x, e)
		}
	}
}

// Number: by any limbs, of wires that fall out, of such that are not there, of nothing.
func TestP2003Number(t *testing.T) {
	maker := sample.Maker(2003)
	for values := range 4 {
		p := newDesks(t, someSet(&maker, values)...)
		for range 8 {
			p.run(t, p.model.someCall(&maker))
		}
		for range 200 {
			x := p.model.someLin(&maker, maker.Next()%2 == 0)
			if p.model.allThere(x) {
				p.number(t, fmt.Sprint("Number of ", x), x, p.model.own.sum(formOf(x)))
				continue
			}
			for i, d := range p.both() {
				if n, ok := d.Number(x); ok || n != (scalar.Scalar{}) {
					t.Errorf("desk %d: Number of %v is %v, %v", i, x, n, ok)
				}
			}
		}
		p.number(t, "Number of nothing", nil, new(big.Int))
		p.number(t, "Number of 1", of(unit), big.NewInt(1))
		p.same(t, "Number adds nothing")
	}
}

// Every wire's number, also those of the gates that pieces added.
func TestP2003NumberOfWires(t *testing.T) {
	p := small(t, 3, 5)
	for _, k := range kinds() {
		p.ok(t, k.call(slices.Repeat([]circuit.Lin{of(value(1))}, k.sums)...))
	}
	for w, n := range p.model.own {
		p.number(t, fmt.Sprint("Number of ", w), of(w), n)
	}
	for _, w := range []circuit.Wire{left(p.model.gates), right(-1), value(2), {Kind: 1, I: 1}, {}, {Kind: 6}} {
		if n, ok := p.known.Number(of(w)); ok || n != (scalar.Scalar{}) {
			t.Errorf("Number of %v is %v, %v", w, n, ok)
		}
	}
}
