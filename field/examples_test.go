package field_test

// The chapter's examples, by their numbers.

import (
	"math/big"
	"testing"

	"veil/api"
	"veil/field"
	"veil/sample"
)

// ends: 32 bytes: first, then 30 times middle, then last.
func ends(first, middle, last byte) api.Bytes32 {
	b := api.Bytes32{0: first, 31: last}
	for i := 1; i < 31; i++ {
		b[i] = middle
	}
	return b
}

func TestExample1Limbs(t *testing.T) {
	a := field.Elem{19, 0, 0, 0, overLimb}
	if a.Least() != (field.Elem{38}) || a.Negative() {
		t.Errorf("2^255 + 19: %v, %v", a.Least(), a.Negative())
	}
	full := field.Elem{maxLimb, maxLimb, maxLimb, maxLimb, maxLimb}
	check(t, full.Least(), whole(full), "all limbs full")
}

func TestExample2P(t *testing.T) {
	a := field.Elem{overLimb - 19, topLimb, topLimb, topLimb, topLimb}
	if !a.IsZero() || a.Encode() != (api.Bytes32{}) || a.Least() != (field.Elem{}) {
		t.Errorf("p: %v, %v, %v", a.IsZero(), a.Encode(), a.Least())
	}
}

func TestExample3Bytes(t *testing.T) {
	a, e := field.Decode(ends(236, 255, 127))
	if check(t, a, big.NewInt(-1), "Decode of p - 1"); e != api.OK {
		t.Errorf("Decode of p - 1: error %d", e)
	}
	for _, b := range []api.Bytes32{ends(237, 255, 127), ends(0, 0, 128), ends(255, 255, 255)} {
		if a, e := field.Decode(b); e != api.ErrCanon || a != (field.Elem{}) {
			t.Errorf("Decode of %v = %v, %d", b, a, e)
		}
	}
	check(t, field.Reduce(ends(237, 255, 127)), new(big.Int), "Reduce of p")
	check(t, field.Reduce(ends(255, 255, 255)), big.NewInt(18), "Reduce of 32 times 255")
}

func TestExample4Sums(t *testing.T) {
	check(t, field.Int(5).Sub(field.Int(7)), big.NewInt(-2), "5 - 7")
	check(t, field.Elem{}.Neg(), new(big.Int), "-0")
	half := sample.Decimal("28948022309329048855892746252171976963317496166410141009864396001978282409975")
	check(t, field.Int(2).Invert(), half, "1 / 2")
	check(t, field.Elem{}.Power(api.Bytes32{}), big1, "0^0")
	check(t, field.Elem{}.Power(ends(0, 0, 128)), new(big.Int), "0^(2^255)")
}

func TestExample5Roots(t *testing.T) {
	for _, c := range []struct {
		u, v uint64
		r    *big.Int
		ok   bool
	}{
		{4, 1, big.NewInt(2), true},
		{1, 4, new(big.Int).Rsh(p, 1), true},
		{0, 0, new(big.Int), true},
		{0, 5, new(big.Int), true},
		{1, 0, new(big.Int), false},
	} {
		r, ok := field.SqrtRatio(field.Int(c.u), field.Int(c.v))
		if check(t, r, c.r, "SqrtRatio(%d, %d)", c.u, c.v); ok != c.ok {
			t.Errorf("SqrtRatio(%d, %d) tells %v", c.u, c.v, ok)
		}
	}
	r, ok := field.SqrtRatio(field.Int(2), field.Int(1))
	if ok || r.Negative() || r.Square() != field.Const(api.CSqrtM1).Mul(field.Int(2)) {
		t.Errorf("SqrtRatio(2, 1) = %v, %v", r, ok)
	}
}

func TestExample6Consts(t *testing.T) {
	check(t, field.Const(0), new(big.Int), "Const(0)")
	check(t, field.Const(7), new(big.Int), "Const(7)")
	check(t, field.Const(1).Mul(field.Const(1)), big.NewInt(-1), "Const(1) squared")
}

func TestExample7Select(t *testing.T) {
	a, b := field.Int(3), field.Int(8)
	if field.Select(3, a, b) != a || field.Select(-2, a, b) != b {
		t.Errorf("Select: %v, %v", field.Select(3, a, b), field.Select(-2, a, b))
	}
}
