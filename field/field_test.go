package field_test

import (
	"math"
	"math/big"
	"testing"

	"veil/api"
	"veil/field"
	"veil/sample"
)

// callAll: every call of the package at once.
func callAll(a, b field.Elem, bytes api.Bytes32, n int) {
	a.Least()
	field.Int(a[0])
	field.Decode(bytes)
	field.Reduce(bytes)
	a.Encode()
	a.Add(b)
	a.Sub(b)
	a.Neg()
	a.Mul(b)
	a.Square()
	a.Power(bytes)
	a.Invert()
	a.One()
	a.Same(b)
	a.IsZero()
	a.Negative()
	a.Abs()
	field.Select(n, a, b)
	field.SqrtRatio(a, b)
	field.Const(n)
}

// P101: a panic in any call fails the test; the arguments are looked at again behind it.
func TestP101EveryCallEnds(t *testing.T) {
	full := api.Bytes32{}
	for i := range full {
		full[i] = 255
	}
	numbers := []int{math.MinInt, -7, -1, 0, 1, 6, 7, math.MaxInt}
	for i, a := range edges() {
		for j, b := range edges() {
			wasA, wasB, wasBytes := a, b, full
			callAll(a, b, full, numbers[(i+j)%len(numbers)])
			callAll(a, b, api.Bytes32{}, numbers[i%len(numbers)])
			if a != wasA || b != wasB || full != wasBytes {
				t.Fatalf("an argument was changed: %v, %v", wasA, wasB)
			}
		}
	}
}

func TestP102Least(t *testing.T) {
	for _, a := range append(elems(2000), nearP()...) {
		check(t, a.Least(), whole(a), "%v.Least()", a)
		check(t, a.One(), big1, "%v.One()", a)
	}
	limbs := []uint64{0, 18, topLimb - 19, topLimb - 18, topLimb, overLimb, maxLimb - topLimb, maxLimb}
	n := len(limbs)
	for i := range n * n * n * n * n {
		a := field.Elem{limbs[i%n], limbs[i/n%n], limbs[i/n/n%n], limbs[i/n/n/n%n], limbs[i/n/n/n/n]}
		check(t, a.Least(), whole(a), "%v.Least()", a)
	}
}

func TestP102Int(t *testing.T) {
	for _, n := range []uint64{0, 1, 19, topLimb, overLimb, overLimb + 1, 1 << 63, maxLimb} {
		check(t, field.Int(n), new(big.Int).SetUint64(n), "Int(%d)", n)
	}
}

func TestP103Encode(t *testing.T) {
	for _, a := range append(elems(500), nearP()...) {
		b := a.Encode()
		if b != sample.Bytes32(number(a)) {
			t.Errorf("%v.Encode() = %v", a, b)
		}
		if back, e := field.Decode(b); e != api.OK || back != elem(whole(a)) {
			t.Errorf("Decode of %v.Encode() = %v, %d", a, back, e)
		}
	}
}

// decodes: Decode and Reduce of the bytes of one number, both asked for what P103 says.
func decodes(t *testing.T, n *big.Int) {
	t.Helper()
	b := sample.Bytes32(n)
	a, e := field.Decode(b)
	if n.Cmp(p) >= 0 {
		if e != api.ErrCanon || a != (field.Elem{}) {
			t.Errorf("Decode of the bytes of %v = %v, %d, want 0, ErrCanon", n, a, e)
		}
	} else {
		check(t, a, n, "Decode of the bytes of %v", n)
		if e != api.OK {
			t.Errorf("Decode of the bytes of %v: error %d", n, e)
		}
	}
	below := new(big.Int).Mod(n, sample.Power2(255))
	check(t, field.Reduce(b), below, "Reduce of the bytes of %v", n)
}

func TestP103DecodeReduce(t *testing.T) {
	for _, middle := range []*big.Int{new(big.Int), p, sample.Power2(255), new(big.Int).Add(sample.Power2(255), p), sample.Power2(256)} {
		for off := int64(-40); off <= 40; off++ {
			n := new(big.Int).Add(middle, big.NewInt(off))
			if n.Sign() >= 0 && n.BitLen() <= 256 {
				decodes(t, n)
			}
		}
	}
	for bit := range uint(256) {
		decodes(t, sample.Power2(bit))
		decodes(t, new(big.Int).Sub(sample.Power2(bit+1), big1))
	}
	m := sample.Maker(3)
	for range 500 {
		b := m.Bytes32()
		decodes(t, sample.Number(b[:]))
	}
}

func TestP104Arithmetic(t *testing.T) {
	list := elems(60)
	for _, a := range list {
		n := number(a)
		check(t, a.Neg(), new(big.Int).Neg(n), "%v.Neg()", a)
		check(t, a.Square(), new(big.Int).Mul(n, n), "%v.Square()", a)
		for _, b := range list {
			m := number(b)
			check(t, a.Add(b), new(big.Int).Add(n, m), "%v.Add(%v)", a, b)
			check(t, a.Sub(b), new(big.Int).Sub(n, m), "%v.Sub(%v)", a, b)
			check(t, a.Mul(b), new(big.Int).Mul(n, m), "%v.Mul(%v)", a, b)
		}
	}
	for _, a := range nearP() {
		n := number(a)
		check(t, a.Neg(), new(big.Int).Neg(n), "%v.Neg()", a)
		check(t, a.Square(), new(big.Int).Mul(n, n), "%v.Square()", a)
		check(t, a.Add(a), new(big.Int).Add(n, n), "%v.Add(itself)", a)
		check(t, a.Sub(a), new(big.Int), "%v.Sub(itself)", a)
	}
	m := sample.Maker(4)
	for range 5000 {
		a := anyElem(&m)
		check(t, a.Square(), new(big.Int).Mul(number(a), number(a)), "%v.Square()", a)
	}
}

func TestP105Power(t *testing.T) {
	exponents := []*big.Int{new(big.Int), big1, big.NewInt(2), big.NewInt(3), big.NewInt(255), big.NewInt(256), big.NewInt(65537), sample.Power2(255), new(big.Int).Sub(p, big1), p, new(big.Int).Sub(sample.Power2(256), big1)}
	m := sample.Maker(5)
	for range 8 {
		b := m.Bytes32()
		exponents = append(exponents, new(big.Int).SetBytes(b[:]))
	}
	for _, a := range elems(5) {
		for _, e := range exponents {
			check(t, a.Power(sample.Bytes32(e)), new(big.Int).Exp(number(a), e, p), "%v.Power(%v)", a, e)
		}
	}
}

func TestP105Invert(t *testing.T) {
	for _, a := range append(elems(200), nearP()...) {
		want := new(big.Int)
		if n := number(a); n.Sign() != 0 {
			want.ModInverse(n, p)
		}
		check(t, a.Invert(), want, "%v.Invert()", a)
	}
}

func TestP106Questions(t *testing.T) {
	list := append(elems(40), nearP()...)
	for _, a := range list {
		n := number(a)
		if a.IsZero() != (n.Sign() == 0) {
			t.Errorf("%v.IsZero() = %v", a, a.IsZero())
		}
		odd := n.Bit(0) == 1
		if a.Negative() != odd {
			t.Errorf("%v.Negative() = %v", a, a.Negative())
		}
		want := n
		if odd {
			want = new(big.Int).Neg(n)
		}
		check(t, a.Abs(), want, "%v.Abs()", a)
		for _, b := range list {
			if same := n.Cmp(number(b)) == 0; a.Same(b) != same {
				t.Errorf("%v.Same(%v) = %v", a, b, !same)
			}
		}
	}
}

func TestP107Select(t *testing.T) {
	picks := map[int]bool{math.MinInt: false, math.MinInt + 1: true, -3: true, -2: false, -1: true, 0: false, 1: true, 2: false, 3: true, 256: false, math.MaxInt - 1: false, math.MaxInt: true}
	list := elems(10)
	for _, a := range list {
		for _, b := range list {
			for pick, first := range picks {
				want := b
				if first {
					want = a
				}
				check(t, field.Select(pick, a, b), number(want), "Select(%d, %v, %v)", pick, a, b)
			}
		}
	}
}

// wantRoot: the root and the verdict that P108 asks for, by another way: math/big's own square roots.
func wantRoot(u, v *big.Int) (*big.Int, bool) {
	if u.Sign() == 0 {
		return new(big.Int), true
	}
	if v.Sign() == 0 {
		return new(big.Int), false
	}
	ratio := new(big.Int).ModInverse(v, p)
	ratio.Mul(ratio, u).Mod(ratio, p)
	square := big.Jacobi(ratio, p) == 1
	if !square {
		i, _ := new(big.Int).SetString("19681161376707505956807079304988542015446066515923890162744021073123829784752", 10)
		ratio.Mul(ratio, i).Mod(ratio, p)
	}
	r := new(big.Int).ModSqrt(ratio, p)
	if r.Bit(0) == 1 {
		r.Sub(p, r)
	}
	return r, square
}

func TestP108SqrtRatio(t *testing.T) {
	list := elems(25)
	verdicts := map[bool]int{}
	for _, u := range list {
		for _, v := range list {
			root, square := wantRoot(number(u), number(v))
			r, ok := field.SqrtRatio(u, v)
			check(t, r, root, "SqrtRatio(%v, %v)", u, v)
			if ok != square {
				t.Errorf("SqrtRatio(%v, %v) tells %v", u, v, ok)
			}
			verdicts[ok]++
		}
	}
	if verdicts[true] < 100 || verdicts[false] < 100 {
		t.Errorf("too few squares or others among the ratios: %v", verdicts)
	}
}

func TestP109Const(t *testing.T) {
	digits := map[int]string{
		api.CSqrtM1:     "19681161376707505956807079304988542015446066515923890162744021073123829784752",
		api.CD:          "37095705934669439343138083508754565189542113879843219016388785533085940283555",
		api.CSqrtADM1:   "25063068953384623474111414158702152701244531502492656460079210482610430750235",
		api.CInvSqrtAMD: "54469307008909316920995813868745141605393597292927456921205312896311721017578",
		api.COneMDSq:    "1159843021668779879193775521855586647937357759715417654439879720876111806838",
		api.CDMOneSq:    "40440834346308536858101042469323190826248399146238708352240133220865137265952",
	}
	for which, s := range digits {
		a := field.Const(which)
		check(t, a, sample.Decimal(s), "Const(%d)", which)
		a[0]++
		check(t, field.Const(which), sample.Decimal(s), "Const(%d), its last answer written into,", which)
	}
	for _, which := range []int{math.MinInt, -6, -1, 0, 7, 8, 1 << 32, 1<<32 + 1, math.MaxInt} {
		check(t, field.Const(which), new(big.Int), "Const(%d)", which)
	}
}

// P109: what the table of the chapter says that each constant is.
func TestP109Meanings(t *testing.T) {
	one, d := field.Int(1), field.Const(api.CD)
	i, root, inverse := field.Const(api.CSqrtM1), field.Const(api.CSqrtADM1), field.Const(api.CInvSqrtAMD)
	square := d.Neg().Sub(one)
	for what, holds := range map[string]bool{
		"i i = -1, i not negative":                    i.Square() == one.Neg() && !i.Negative(),
		"121666 d = -121665":                          d.Mul(field.Int(121666)) == field.Int(121665).Neg(),
		"number 3 squared = -d - 1, 3 negative":       root.Square() == square && root.Negative(),
		"number 4 squared (-1 - d) = 1, not negative": inverse.Square().Mul(square) == one && !inverse.Negative(),
		"number 5 = 1 - d d":                          field.Const(api.COneMDSq) == one.Sub(d.Mul(d)),
		"number 6 = (d - 1) (d - 1)":                  field.Const(api.CDMOneSq) == d.Sub(one).Mul(d.Sub(one)),
	} {
		if !holds {
			t.Errorf("not so: %s", what)
		}
	}
}

func TestP110Laws(t *testing.T) {
	toP := sample.Bytes32(p)
	list := elems(4)
	for _, a := range list {
		least := a.Least()
		if a.Add(field.Elem{}) != least || a.Mul(a.One()) != least || a.Sub(a) != (field.Elem{}) || a.Power(toP) != least {
			t.Errorf("0, 1, - or ^p: %v", a)
		}
		if unit := a.Mul(a.Invert()); unit != field.Int(1) && !(a.IsZero() && unit == field.Elem{}) {
			t.Errorf("%v times its inverse = %v", a, unit)
		}
		for _, b := range list {
			if a.Add(b) != b.Add(a) || a.Mul(b) != b.Mul(a) {
				t.Errorf("order: %v, %v", a, b)
			}
			for _, c := range list {
				if a.Add(b).Add(c) != a.Add(b.Add(c)) || a.Mul(b).Mul(c) != a.Mul(b.Mul(c)) {
					t.Errorf("brackets: %v, %v, %v", a, b, c)
				}
				if a.Mul(b.Add(c)) != a.Mul(b).Add(a.Mul(c)) {
					t.Errorf("product of a sum: %v, %v, %v", a, b, c)
				}
			}
		}
	}
}
