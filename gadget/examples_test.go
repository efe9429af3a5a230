package gadget_test

// The examples of the chapter, by their numbers.

import (
	"testing"

	"veil/api"
	"veil/circuit"
)

// threeAndFive: the desk of the examples, and its values' sums.
func threeAndFive(t testing.TB) (p *desks, x, y circuit.Lin) {
	t.Helper()
	p = small(t, 3, 5)
	x, e := p.known.Value(0)
	errno(t, "Value(0)", e, api.OK)
	y, e = p.known.Value(1)
	errno(t, "Value(1)", e, api.OK)
	return p, x, y
}

// told: the number of an answer.
func (p *desks) told(t testing.TB, what string, x circuit.Lin, want int64) {
	t.Helper()
	if n, ok := p.known.Number(x); !ok || n != num(want) {
		t.Errorf("%s: %v, %v, want %d", what, n, ok, want)
	}
}

func TestExample1Products(t *testing.T) {
	p, x, y := threeAndFive(t)
	p.more(t, "at the beginning", 0, 0)
	p.told(t, "Multiply", p.ok(t, multiplyCall(x, y))[0], 15)
	p.more(t, "Multiply", 1, 2)
	p.requirement(t, "left - x", 0, term(1, left(2)), term(-1, value(0)))
	p.requirement(t, "right - y", 1, term(1, right(2)), term(-1, value(1)))
	p.gate(t, "Multiply", 0, 3, 5, 15)
	p.told(t, "Product()", p.ok(t, productCall())[0], 1)
	p.told(t, "Product(x)", p.ok(t, productCall(x))[0], 3)
	p.more(t, "nothing is added", 1, 2)
	p.told(t, "Product(x, y, x)", p.ok(t, productCall(x, y, x))[0], 45)
	p.more(t, "two gates", 3, 6)
	p.gate(t, "the first two", 1, 3, 5, 15)
	p.gate(t, "that and the third", 2, 15, 3, 45)
	p.holds(t, "products", api.OK)
}

func TestExample2Power(t *testing.T) {
	p, x, _ := threeAndFive(t)
	p.told(t, "Power(x, 5)", p.ok(t, powerCall(x, 5))[0], 243)
	p.more(t, "three gates", 3, 6)
	p.gate(t, "x x", 0, 3, 3, 9)
	p.gate(t, "(x x)(x x)", 1, 9, 9, 81)
	p.gate(t, "that times x", 2, 81, 3, 243)
	p.told(t, "Power(x, 1)", p.ok(t, powerCall(x, 1))[0], 3)
	p.refused(t, powerCall(x, -1), api.ErrArg)
	p.more(t, "nothing is added", 3, 6)
}

func TestExample3Bits(t *testing.T) {
	p, x, y := threeAndFive(t)
	for i, bit := range p.ok(t, bitsCall(x, 2)) {
		p.told(t, "Bits(x, 2)", bit, []int64{1, 1}[i])
	}
	p.more(t, "two gates, five requirements", 2, 5)
	p.holds(t, "3 has two bits", api.OK)
	for i, bit := range p.ok(t, bitsCall(y, 2)) {
		p.told(t, "Bits(y, 2)", bit, []int64{1, 0}[i])
	}
	p.holds(t, "5 has three", api.ErrRequire)
	p.none(t, "5 has three")
	for _, c := range []call{bitsCall(x, 0), bitsCall(x, 253), lessCall(x, y, 252)} {
		p.refused(t, c, api.ErrArg)
	}
}

func TestExample4Less(t *testing.T) {
	p, x, y := threeAndFive(t)
	p.ok(t, lessCall(x, y, 3))
	p.more(t, "nine gates", 9, 21)
	p.holds(t, "3 lies below 5", api.OK)
	p.ok(t, lessCall(y, x, 3))
	p.holds(t, "5 does not lie below 3", api.ErrRequire)
	p.none(t, "5 does not lie below 3")
	if n, _ := p.known.Number(x.Sub(y).Sub(number(1))); n != num(-3) || n.Bit(252) != 1 {
		t.Errorf("x - y - 1 is %v", n)
	}
}

func TestExample5NotZeroMember(t *testing.T) {
	p, x, _ := threeAndFive(t)
	p.ok(t, notZeroCall(x.Sub(x)))
	p.gate(t, "NotZero(x - x)", 0, 0, 0, 0)
	p.requirement(t, "output less 1", 1, term(-1, unit), term(1, out(2)))
	p.holds(t, "output less 1", api.ErrRequire)
	p, x, _ = threeAndFive(t)
	p.ok(t, memberCall(x, nums(1, 3)))
	p.more(t, "one gate", 1, 3)
	p.holds(t, "3 is one of 1 and 3", api.OK)
	p.refused(t, memberCall(x, nil), api.ErrArg)
}

func TestExample6Choose(t *testing.T) {
	for bit, want := range []int64{5, 3, 1} {
		p, x, y := threeAndFive(t)
		p.told(t, "Choose", p.ok(t, chooseCall(number(int64(bit)), x, y))[0], want)
		p.holds(t, "Choose", api.OK)
	}
}

func TestExample7Shuffle(t *testing.T) {
	p, x, y := threeAndFive(t)
	p.ok(t, shuffleCall([]circuit.Lin{x, y}, []circuit.Lin{y, x}, num(7)))
	p.more(t, "2 gates, 5 requirements", 2, 5)
	p.gate(t, "(3 - 7)(5 - 7)", 0, -4, -2, 8)
	p.gate(t, "(5 - 7)(3 - 7)", 1, -2, -4, 8)
	p.holds(t, "Shuffle", api.OK)
	p.refused(t, shuffleCall([]circuit.Lin{x}, []circuit.Lin{x, y}, num(7)), api.ErrLength)
}

func TestExample8Refused(t *testing.T) {
	p, x, y := threeAndFive(t)
	if z, e := p.known.Value(2); z != nil || e != api.ErrArg {
		t.Errorf("Value(2): %v, %d", z, e)
	}
	p.refused(t, zeroCall(of(left(9))), api.ErrWire)
	p.more(t, "nothing was added", 0, 0)
	p.ok(t, multiplyCall(x, y)) // on both desks, with the same system behind it
	if n, ok := p.unknown.Number(x); ok || n != num(0) {
		t.Errorf("Number of a desk that does not know: %v, %v", n, ok)
	}
}
