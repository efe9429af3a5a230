package field_test

// What the tests of this package hold the answers against: numbers of math/big, which know nothing of limbs.

import (
	"math/big"
	"testing"

	"veil/field"
	"veil/sample"
)

const (
	maxLimb  = 1<<64 - 1
	topLimb  = 1<<51 - 1 // the greatest of a least limb
	overLimb = 1 << 51   // the least that is too great for one
)

var (
	big1 = big.NewInt(1)
	p    = sample.P()
)

// whole: the number of an element, not modulo p.
func whole(a field.Elem) *big.Int {
	n := new(big.Int)
	for i := len(a) - 1; i >= 0; i-- {
		n.Lsh(n, 51).Add(n, new(big.Int).SetUint64(a[i]))
	}
	return n
}

// number: what an element stands for, from 0 to p - 1.
func number(a field.Elem) *big.Int {
	n := whole(a)
	return n.Mod(n, p)
}

// elem: the element of a number by its least limbs.
func elem(n *big.Int) field.Elem { return sample.Elem(n) }

// check: an answer must be the least limbs of a number.
func check(t *testing.T, got field.Elem, want *big.Int, what string, args ...any) {
	t.Helper()
	if got != elem(want) {
		t.Errorf(what+" = %v, want %v", append(args, got, elem(want))...)
	}
}

// anyElem: an element by any limbs; some of them short, so that all sizes come up.
func anyElem(m *sample.Maker) field.Elem {
	var a field.Elem
	for i := range a {
		a[i] = m.Next() >> (m.Next() % 4 * 13)
	}
	return a
}

// nearP: elements whose numbers lie around multiples of p, as far up as five limbs reach, in two ways of writing each.
func nearP() []field.Elem {
	var list []field.Elem
	for _, times := range []int64{0, 1, 2, 3, 16, 4095, 8191} {
		for off := int64(-20); off <= 20; off++ {
			n := new(big.Int).Mul(p, big.NewInt(times))
			n.Add(n, big.NewInt(off))
			if n.Sign() < 0 {
				continue
			}
			high := new(big.Int).Rsh(n, 204)
			a := elem(new(big.Int).Mod(n, sample.Power2(204)))
			a[4] = high.Uint64()
			list = append(list, a)
			if a[1] > 0 && a[4] > 0 {
				a[0] += overLimb
				a[1]--
				a[3] += overLimb
				a[4]--
				list = append(list, a)
			}
		}
	}
	return list
}

// edges: elements that the chapter names, and what lies at the limbs' ends.
func edges() []field.Elem {
	return []field.Elem{
		{}, {1}, {2}, {4}, {18}, {19}, {20},
		{19, 0, 0, 0, overLimb},                                                  // 2^255 + 19
		{topLimb - 18, topLimb, topLimb, topLimb, topLimb},                       // p
		{topLimb - 19, topLimb, topLimb, topLimb, topLimb},                       // p - 1
		{topLimb - 20, topLimb, topLimb, topLimb, topLimb},                       // p - 2
		{topLimb - 17, topLimb, topLimb, topLimb, topLimb},                       // p + 1
		{topLimb, topLimb, topLimb, topLimb, topLimb},                            // 2^255 - 1
		{overLimb, topLimb, topLimb, topLimb, topLimb},                           // 2^255
		{overLimb, overLimb, overLimb, overLimb, overLimb},                       // one beyond, in each
		{0, 0, 0, 0, overLimb},                                                   // 2^255 again
		{2 * (topLimb - 18), 2 * topLimb, 2 * topLimb, 2 * topLimb, 2 * topLimb}, // 2 p
		{maxLimb, maxLimb, maxLimb, maxLimb, maxLimb},
		{maxLimb}, {0, maxLimb}, {0, 0, maxLimb}, {0, 0, 0, maxLimb}, {0, 0, 0, 0, maxLimb},
		{maxLimb - topLimb, maxLimb - topLimb, maxLimb - topLimb, maxLimb - topLimb, maxLimb - topLimb},
		{1 << 63, 0, 1 << 63, 0, 1 << 63},
		{topLimb, 0, topLimb, 0, topLimb},
		{123456789, 987654321, 1 << 50, 7, 1 << 49},
	}
}

// elems: the edges, and others by any limbs.
func elems(others int) []field.Elem {
	list := edges()
	m := sample.Maker(1)
	for range others {
		list = append(list, anyElem(&m))
	}
	return list
}
