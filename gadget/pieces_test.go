package gadget_test

// P2004 to P2007: what each piece adds, its answers, and the own numbers of its gates.

import (
	"fmt"
	"math/big"
	"slices"
	"testing"

	"veil/api"
	"veil/circuit"
	"veil/sample"
	"veil/scalar"
)

// answer: the one sum, written out.
func answer(t testing.TB, what string, got []circuit.Lin, want ...circuit.Term) {
	t.Helper()
	if len(got) != 1 || !slices.Equal(got[0], want) {
		t.Errorf("%s: %v, want %v", what, got, want)
	}
}

func TestP2004Product(t *testing.T) {
	p := small(t, 3, 5)
	x, y := of(value(0)), of(value(1))
	answer(t, "of none", p.ok(t, productCall()), term(1, unit))
	answer(t, "of one", p.ok(t, productCall(x)), term(1, value(0)))
	answer(t, "of one that is nothing", p.ok(t, productCall(nil)))
	loose := circuit.Lin{term(2, value(1)), term(4, left(0)), term(7, out(99)), term(1, value(0)), term(-7, out(99)), term(-1, value(1)), term(-4, left(0))}
	answer(t, "of one, told least", p.ok(t, productCall(loose)), term(1, value(0)), term(1, value(1)))
	p.more(t, "nothing was added", 0, 0)
	answer(t, "of two", p.ok(t, productCall(x, y)), term(1, out(2)))
	answer(t, "of two", p.ok(t, multiplyCall(x, y)), term(1, out(3)))
	answer(t, "of four", p.ok(t, productCall(x, y, loose, number(2))), term(1, out(6)))
	p.more(t, "five gates", 5, 10)
	p.gate(t, "x y", 2, 3, 5, 15)
	p.gate(t, "that times the third", 3, 15, 8, 120)
	p.gate(t, "that times the fourth", 4, 120, 2, 240)
	p.requirement(t, "left less the product so far", 6, term(1, left(5)), term(-1, out(4)))
	p.requirement(t, "right less the third", 7, term(1, right(5)), term(-1, value(0)), term(-1, value(1)))
	p.requirement(t, "right less the fourth", 9, term(-2, unit), term(1, right(6)))
	answer(t, "of nothing and nothing", p.ok(t, productCall(nil, nil)), term(1, out(7)))
	p.requirement(t, "left less nothing", 10, term(1, left(7)))
	p.holds(t, "products", api.OK)
}

// Products of any sums, by any limbs.
func TestP2004AnyProducts(t *testing.T) {
	maker := sample.Maker(2004)
	p := newDesks(t, someSet(&maker, 3)...)
	for n := range 12 {
		sums := p.model.someSums(&maker, n, false)
		p.ok(t, productCall(sums...))
		p.ok(t, multiplyCall(p.model.someLin(&maker, false), p.model.someLin(&maker, false)))
	}
	p.holds(t, "products", api.OK)
}

func TestP2004Power(t *testing.T) {
	for _, n := range []int{-1 << 63, -5, -2, -1} {
		p := small(t, 3)
		p.refused(t, powerCall(of(value(0)), n), api.ErrArg)
		p.refused(t, powerCall(of(value(1)), n), api.ErrArg)
	}
	for _, c := range []struct{ n, gates int }{
		{0, 0}, {1, 0}, {2, 1}, {3, 2}, {4, 2}, {5, 3}, {6, 3}, {7, 4}, {8, 3}, {1000, 9 + 5}, {1 << 62, 62}, {1<<62 + 1, 63}, {1<<63 - 1, 124}, {1<<63 - 2, 123}, {0x5555555555555555, 62 + 31},
	} {
		for _, v := range []int64{0, 1, 2, -1, 3} {
			p := small(t, v, 7)
			x := of(value(0))
			got := p.ok(t, powerCall(x, c.n))
			p.more(t, fmt.Sprintf("%d to the power %d", v, c.n), c.gates, 2*c.gates)
			want := new(big.Int).Exp(sample.Mod(big.NewInt(v)), big.NewInt(int64(c.n)), sample.L())
			p.number(t, fmt.Sprintf("%d to the power %d", v, c.n), got[0], want)
			p.holds(t, "a power", api.OK)
		}
	}
	p := small(t, 3)
	answer(t, "Power 0", p.ok(t, powerCall(of(out(0)), 0)), term(1, unit))
	answer(t, "Power 1", p.ok(t, powerCall(circuit.Lin{term(1, value(0)), term(0, left(0)), term(2, value(0))}, 1)), term(3, value(0)))
	answer(t, "Power of nothing", p.ok(t, powerCall(nil, 1)))
	answer(t, "Power 6", p.ok(t, powerCall(of(value(0)), 6)), term(1, out(3)))
	p.gate(t, "x x", 0, 3, 3, 9)
	p.gate(t, "x x x", 1, 9, 3, 27)
	p.gate(t, "that by itself", 2, 27, 27, 729)
	p.requirement(t, "left of x x x", 2, term(1, left(2)), term(-1, out(1)))
	p.requirement(t, "right of x x x", 3, term(1, right(2)), term(-1, value(0)))
}

func TestP2004AnyPowers(t *testing.T) {
	maker := sample.Maker(4)
	p := newDesks(t, someSet(&maker, 2)...)
	for n := range 40 {
		p.ok(t, powerCall(p.model.someLin(&maker, false), n))
	}
	p.holds(t, "powers", api.OK)
}

func TestP2005Requirements(t *testing.T) {
	p := small(t, 3, 5, 0)
	x, y, z := of(value(0)), of(value(1)), of(value(2))
	for _, c := range []call{zeroCall(nil), zeroCall(circuit.Lin{}), zeroCall(z), zeroCall(circuit.Lin{term(5, value(0)), term(-3, value(1))}), equalCall(x, x), equalCall(nil, z), equalCall(x, y.Sub(number(2))), equalCall(nil, nil)} {
		p.ok(t, c)
		p.holds(t, c.name, api.OK)
	}
	p.more(t, "no gates", 0, 8)
	p.requirement(t, "Zero(nil)", 0)
	p.requirement(t, "Zero", 3, term(5, value(0)), term(-3, value(1)))
	p.requirement(t, "Equal(x, x)", 4)
	p.requirement(t, "Equal(nil, z)", 5, term(-1, value(2)))
	p.requirement(t, "Equal(x, y - 2)", 6, term(2, unit), term(1, value(0)), term(-1, value(1)))
	for _, c := range []call{zeroCall(x), zeroCall(number(1)), zeroCall(x.Sub(y)), equalCall(x, y), equalCall(y, x), equalCall(x, nil), equalCall(nil, y), equalCall(x, x.Add(number(1)))} {
		p := small(t, 3, 5, 0)
		p.ok(t, c)
		p.holds(t, c.name, api.ErrRequire)
		p.none(t, c.name)
	}
}

func TestP2005NotZero(t *testing.T) {
	for _, v := range []int64{1, 2, -1, 3, 1 << 40, -77} {
		p := small(t, v)
		p.ok(t, notZeroCall(of(value(0))))
		a, _ := p.known.Assignment()
		if a.L[1] != num(v) || a.R[1].Mul(num(v)) != num(1) || a.O[1] != num(1) {
			t.Errorf("%d: %v, %v, %v", v, a.L[1], a.R[1], a.O[1])
		}
		p.requirement(t, "left less x", 0, term(1, left(1)), term(-1, value(0)))
		p.requirement(t, "output less 1", 1, term(-1, unit), term(1, out(1)))
		p.more(t, "one gate", 1, 2)
		p.holds(t, "it is not 0", api.OK)
	}
	for _, x := range []circuit.Lin{nil, of(value(0)), of(right(0)), {{Wire: unit, K: sample.Words(sample.L())}}, {term(3, unit), term(-3, unit)}, of(value(1)).Sub(number(4))} {
		p := small(t, 0, 4)
		p.ok(t, notZeroCall(x))
		p.gate(t, "of 0", 0, 0, 0, 0)
		p.holds(t, "it is 0", api.ErrRequire)
		p.ok(t, zeroCall(nil)) // the building goes on
		p.holds(t, "it is 0", api.ErrRequire)
	}
}

func TestP2006Bit(t *testing.T) {
	for _, c := range []struct {
		v    int64
		want api.Errno
	}{{0, api.OK}, {1, api.OK}, {2, api.ErrRequire}, {-1, api.ErrRequire}, {3, api.ErrRequire}} {
		p := small(t, c.v)
		p.ok(t, bitCall(of(value(0))))
		p.more(t, "Bit", 1, 3)
		p.gate(t, "Bit", 0, c.v, c.v-1, c.v*(c.v-1))
		p.requirement(t, "right less x - 1", 1, term(1, unit), term(1, right(1)), term(-1, value(0)))
		p.requirement(t, "the product", 2, term(1, out(1)))
		p.holds(t, fmt.Sprint("Bit of ", c.v), c.want)
	}
	p := small(t)
	p.ok(t, bitCall(nil))
	p.ok(t, bitCall(number(1)))
	p.holds(t, "constants", api.OK)
}

func TestP2006BitsRange(t *testing.T) {
	p := small(t, 3)
	for _, n := range []int{-1 << 63, -1, 0, 253, 254, 1 << 32, 1<<63 - 1} {
		p.refused(t, bitsCall(of(value(0)), n), api.ErrArg)
		p.refused(t, bitsCall(of(left(7)), n), api.ErrArg)
	}
	for _, n := range []int{-1 << 63, -1, 0, 252, 253, 1 << 32, 1<<63 - 1} {
		p.refused(t, lessCall(of(value(0)), of(value(0)), n), api.ErrArg)
		p.refused(t, lessCall(of(left(7)), of(value(0)), n), api.ErrArg)
	}
	p.more(t, "nothing was added", 0, 0)
	for _, n := range []int{1, 2, 63, 64, 65, 251, 252} {
		p := small(t, 1)
		got := p.ok(t, bitsCall(of(value(0)), n))
		p.more(t, fmt.Sprint("Bits ", n), n, 2*n+1)
		for i, bit := range got {
			if !slices.Equal(bit, circuit.Lin{term(1, left(i+1))}) {
				t.Errorf("bit %d of %d: %v", i, n, bit)
			}
		}
		p.holds(t, fmt.Sprint("Bits ", n), api.OK)
	}
	for _, n := range []int{1, 2, 250, 251} {
		p := small(t, 0, 1)
		p.ok(t, lessCall(of(value(0)), of(value(1)), n))
		p.more(t, fmt.Sprint("Less ", n), 3*n, 6*n+3)
		p.holds(t, fmt.Sprint("Less ", n), api.OK)
	}
}

// What stands there, written out.
func TestP2006BitsWritten(t *testing.T) {
	p := small(t, 6)
	got := p.ok(t, bitsCall(circuit.Lin{term(1, value(0)), term(-1, unit)}, 3)) // 5
	for i, bit := range got {
		p.told(t, "a bit of 5", bit, []int64{1, 0, 1}[i])
		p.gate(t, "a bit of 5", i, []int64{1, 0, 1}[i], []int64{0, -1, 0}[i], 0)
		p.requirement(t, "the output", 2*i, term(1, out(1+i)))
		p.requirement(t, "left - right - 1", 2*i+1, term(-1, unit), term(1, left(1+i)), term(-1, right(1+i)))
	}
	p.requirement(t, "the sum", 6, term(1, unit), term(1, left(1)), term(2, left(2)), term(4, left(3)), term(-1, value(0)))
	p.holds(t, "5 has three bits", api.OK)
	p = small(t, 1, 3)
	p.ok(t, lessCall(of(value(0)), of(value(1)), 2))
	p.requirement(t, "the bits of x", 4, term(1, left(2)), term(2, left(3)), term(-1, value(0)))
	p.requirement(t, "the bits of y", 9, term(1, left(4)), term(2, left(5)), term(-1, value(1)))
	p.requirement(t, "the bits of y - x - 1", 14, term(1, unit), term(1, left(6)), term(2, left(7)), term(1, value(0)), term(-1, value(1)))
	p.holds(t, "1 lies below 3", api.OK)
}

// Numbers at the edges of what so many bits hold.
func TestP2006BitsEdges(t *testing.T) {
	last := new(big.Int).Sub(sample.L(), big.NewInt(1))
	for _, n := range []int{1, 2, 8, 64, 65, 128, 251, 252} {
		top := sample.Power2(uint(n))
		for _, v := range []*big.Int{new(big.Int), big.NewInt(1), new(big.Int).Sub(top, big.NewInt(1)), top, new(big.Int).Add(top, big.NewInt(1)), new(big.Int).Sub(sample.L(), top), last} {
			for _, look := range sample.Scalars(v)[:2] { // by least limbs and by others
				p := newDesks(t, look)
				p.ok(t, bitsCall(of(value(0)), n))
				want := api.OK
				if v.Cmp(top) >= 0 {
					want = api.ErrRequire
				}
				p.holds(t, fmt.Sprintf("%v has %d bits", v, n), want)
			}
		}
	}
}

func TestP2006LessEdges(t *testing.T) {
	for _, n := range []int{1, 2, 64, 250, 251} {
		top := sample.Power2(uint(n))
		most := new(big.Int).Sub(top, big.NewInt(1))
		next := new(big.Int).Sub(top, big.NewInt(2))
		last := new(big.Int).Sub(sample.L(), big.NewInt(1))
		for _, c := range []struct {
			x, y *big.Int
			want api.Errno
		}{
			{new(big.Int), most, api.OK}, {next, most, api.OK}, {most, most, api.ErrRequire}, {most, next, api.ErrRequire}, {most, top, api.ErrRequire}, {most, new(big.Int), api.ErrRequire},
			{top, top, api.ErrRequire}, {new(big.Int), new(big.Int), api.ErrRequire}, {last, new(big.Int), api.ErrRequire}, {new(big.Int), last, api.ErrRequire}, {top, new(big.Int).Add(top, big.NewInt(1)), api.ErrRequire},
		} {
			p := newDesks(t, sample.Scalar(c.x), sample.Scalar(c.y))
			p.ok(t, lessCall(of(value(0)), of(value(1)), n))
			p.holds(t, fmt.Sprintf("%v lies below %v, of %d bits", c.x, c.y, n), c.want)
		}
	}
}

func TestP2007Choose(t *testing.T) {
	for _, c := range []struct{ bit, want int64 }{{0, 5}, {1, 3}, {2, 1}, {-1, 7}, {10, -15}} {
		p := small(t, 3, 5, c.bit)
		got := p.ok(t, chooseCall(of(value(2)), of(value(0)), of(value(1))))
		answer(t, "Choose", got, term(1, out(3)), term(1, value(1)))
		p.told(t, fmt.Sprint("Choose with ", c.bit), got[0], c.want)
		p.more(t, "Choose", 1, 2)
		p.gate(t, "Choose", 0, c.bit, -2, -2*c.bit)
		p.requirement(t, "left less bit", 0, term(1, left(3)), term(-1, value(2)))
		p.requirement(t, "right less x - y", 1, term(1, right(3)), term(-1, value(0)), term(1, value(1)))
		p.holds(t, "that it is a bit is not required", api.OK)
	}
	p := small(t, 3)
	answer(t, "of the same", p.ok(t, chooseCall(nil, of(value(0)), of(value(0)))), term(1, out(1)), term(1, value(0)))
	answer(t, "y is nothing", p.ok(t, chooseCall(number(1), of(value(0)), nil)), term(1, out(2)))
}

func TestP2007Member(t *testing.T) {
	over := sample.Words(new(big.Int).Add(sample.L(), big.NewInt(3)))
	for _, c := range []struct {
		set  []scalar.Scalar
		want api.Errno
	}{
		{nums(3), api.OK}, {nums(4), api.ErrRequire}, {nums(1, 3), api.OK}, {nums(3, 1), api.OK}, {nums(1, 2, 4), api.ErrRequire}, {nums(3, 3, 3), api.OK}, {nums(-3, 0), api.ErrRequire},
		{[]scalar.Scalar{over}, api.OK}, {append(nums(3, 5), over), api.OK}, {append(nums(5, 6, 7, 8), over), api.OK}, {append(nums(4), sample.Words(new(big.Int).Add(sample.L(), big.NewInt(4)))), api.ErrRequire},
	} {
		p := small(t, 3)
		p.ok(t, memberCall(of(value(0)), c.set))
		p.more(t, "Member", len(c.set)-1, 2*len(c.set)-1)
		p.holds(t, fmt.Sprint("3 is one of ", c.set), c.want)
	}
	p := small(t, 3)
	p.ok(t, memberCall(of(value(0)), nums(3)))
	p.requirement(t, "of one", 0, term(-3, unit), term(1, value(0)))
	p.ok(t, memberCall(of(value(0)), nums(1, 5, 2)))
	p.gate(t, "in the order of the set", 0, 2, -2, -4)
	p.gate(t, "in the order of the set", 1, -4, 1, -4)
	p.requirement(t, "left less x - 1", 1, term(1, unit), term(1, left(1)), term(-1, value(0)))
	p.requirement(t, "right less x - 5", 2, term(5, unit), term(1, right(1)), term(-1, value(0)))
	p.requirement(t, "the product", 5, term(1, out(2)))
	p.refused(t, memberCall(of(value(0)), []scalar.Scalar{}), api.ErrArg)
	p.refused(t, memberCall(of(left(9)), nil), api.ErrArg)
}

func TestP2007Shuffle(t *testing.T) {
	p := small(t, 3, 5, 5)
	x, y, z := of(value(0)), of(value(1)), of(value(2))
	p.ok(t, shuffleCall(nil, nil, num(7)))
	p.ok(t, shuffleCall([]circuit.Lin{}, nil, num(0)))
	p.more(t, "nothing was done", 0, 0)
	p.ok(t, shuffleCall([]circuit.Lin{y}, []circuit.Lin{z}, num(7)))
	p.more(t, "of one", 0, 1)
	p.requirement(t, "of one", 0, term(1, value(1)), term(-1, value(2)))
	p.ok(t, shuffleCall([]circuit.Lin{x, y, z}, []circuit.Lin{z, x, y}, num(7)))
	p.more(t, "of three", 4, 10)
	p.requirement(t, "left less x - r", 1, term(7, unit), term(1, left(3)), term(-1, value(0)))
	p.requirement(t, "right less y - r", 2, term(7, unit), term(1, right(3)), term(-1, value(1)))
	p.requirement(t, "left less the product so far", 3, term(1, left(4)), term(-1, out(3)))
	p.requirement(t, "left less the first of the others", 5, term(7, unit), term(1, left(5)), term(-1, value(2)))
	p.requirement(t, "the first less the second", 9, term(1, out(4)), term(-1, out(6)))
	p.gate(t, "(3 - 7)(5 - 7)", 0, -4, -2, 8)
	p.gate(t, "that times 5 - 7", 1, 8, -2, -16)
	p.gate(t, "(5 - 7)(3 - 7)", 2, -2, -4, 8)
	p.holds(t, "in another order", api.OK)
	two, one := []circuit.Lin{x, y}, []circuit.Lin{x}
	for _, c := range []call{shuffleCall(two, one, num(7)), shuffleCall(one, two, num(7)), shuffleCall(nil, one, num(7)), shuffleCall(one, nil, num(7)), shuffleCall(two, []circuit.Lin{}, num(7))} {
		p.refused(t, c, api.ErrLength)
	}
	p.ok(t, shuffleCall(one, []circuit.Lin{y}, num(7)))
	p.holds(t, "another one", api.ErrRequire)
}

// r by any limbs, and among the elements.
func TestP2007ShufflePlaces(t *testing.T) {
	for _, r := range sample.Scalars(big.NewInt(5)) {
		p := small(t, 3, 5, 4)
		x, y, z := of(value(0)), of(value(1)), of(value(2))
		p.ok(t, shuffleCall([]circuit.Lin{x, y}, []circuit.Lin{y, x}, r))
		p.gate(t, "r is one of them", 0, -2, 0, 0)
		p.holds(t, "in another order", api.OK)
		p.ok(t, shuffleCall([]circuit.Lin{x, y}, []circuit.Lin{y, z}, r))
		p.holds(t, "others, at one of the places where they seem the same", api.OK)
		p.ok(t, shuffleCall([]circuit.Lin{x, y}, []circuit.Lin{y, z}, num(6)))
		p.holds(t, "others, at another place", api.ErrRequire)
	}
}
