package scalar_test

import (
	"math"
	"math/big"
	"testing"

	"veil/api"
	"veil/sample"
	"veil/scalar"
)

// value: the number that digits make to the base 2^w.
func value(digits []int, w uint) *big.Int {
	n := new(big.Int)
	for i := len(digits) - 1; i >= 0; i-- {
		n.Lsh(n, w).Add(n, big.NewInt(int64(digits[i])))
	}
	return n
}

// windows: scalars whose digits carry far or not at all, beside the usual ones.
func windows() []scalar.Scalar {
	list := append(nearL(), scalars(300)...)
	for bit := range uint(253) {
		for _, n := range around(sample.Power2(bit), 1) {
			list = append(list, limbs(n))
		}
	}
	for w := uint(1); w <= 12; w++ {
		for _, digit := range []int64{1 << (w - 1), 1<<(w-1) - 1, 1<<(w-1) + 1, 1<<w - 1} {
			n := new(big.Int)
			for range 252 / w {
				n.Lsh(n, w).Add(n, big.NewInt(digit))
			}
			list = append(list, least(n))
		}
	}
	return list
}

func TestP206Digits(t *testing.T) {
	for _, a := range windows() {
		for w := 1; w <= 12; w++ {
			digits, e := a.Digits(w)
			if e != api.OK || len(digits) != 253/w+1 {
				t.Fatalf("%v.Digits(%d): %d digits, error %d", a, w, len(digits), e)
			}
			for i, d := range digits {
				if d <= -1<<(w-1) || d > 1<<(w-1) {
					t.Errorf("%v.Digits(%d): digit %d is %d", a, w, i, d)
				}
			}
			if value(digits, uint(w)).Cmp(number(a)) != 0 {
				t.Errorf("%v.Digits(%d) = %v", a, w, digits)
			}
		}
	}
}

func TestP207Naf(t *testing.T) {
	for _, a := range windows() {
		for w := 2; w <= 8; w++ {
			digits, e := a.Naf(w)
			if e != api.OK || len(digits) != 254 {
				t.Fatalf("%v.Naf(%d): %d digits, error %d", a, w, len(digits), e)
			}
			last := -w
			for i, d := range digits {
				if d == 0 {
					continue
				}
				if d%2 == 0 || d <= -1<<(w-1) || d >= 1<<(w-1) || i-last < w {
					t.Errorf("%v.Naf(%d): digit %d is %d, the one ahead of it in place %d", a, w, i, d, last)
				}
				last = i
			}
			if value(digits, 1).Cmp(number(a)) != 0 {
				t.Errorf("%v.Naf(%d) = %v", a, w, digits)
			}
		}
	}
}

func TestP206P207WrongWidths(t *testing.T) {
	for _, a := range []scalar.Scalar{{}, {5}, full} {
		for _, w := range []int{math.MinInt, -64, -1, 0, 13, 14, 64, math.MaxInt} {
			if digits, e := a.Digits(w); e != api.ErrArg || len(digits) != 0 {
				t.Errorf("%v.Digits(%d) = %v, error %d", a, w, digits, e)
			}
		}
		for _, w := range []int{math.MinInt, -64, -1, 0, 1, 9, 10, 64, math.MaxInt} {
			if digits, e := a.Naf(w); e != api.ErrArg || len(digits) != 0 {
				t.Errorf("%v.Naf(%d) = %v, error %d", a, w, digits, e)
			}
		}
	}
}
