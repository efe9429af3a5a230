// Package field: layer 1: the integers modulo 2^255 - 19.
package field

// Elem: an element: the number l[0] + 2^51 l[1] + .. + 2^204 l[4], modulo p. Any limbs are taken; every answer has the least ones. The zero value is 0.
type Elem [5]uint64

// Least: the least limbs: those of the number from 0 to p - 1.
func (a Elem) Least() Elem {
	a0, a1, a2, a3, a4 := least(a[0], a[1], a[2], a[3], a[4])
	return Elem{a0, a1, a2, a3, a4}
}

// Int: a small number.
func Int(n uint64) Elem { return Elem{n & limbMask, n >> limbBits} }

// One: 1, whatever a is.
func (a Elem) One() Elem { return Int(1) }

// Add: a + b.
func (a Elem) Add(b Elem) Elem {
	a0, a1, a2, a3, a4 := a.loose()
	b0, b1, b2, b3, b4 := b.loose()
	a0, a1, a2, a3, a4 = least(a0+b0, a1+b1, a2+b2, a3+b3, a4+b4)
	return Elem{a0, a1, a2, a3, a4}
}

// Sub: a - b.
func (a Elem) Sub(b Elem) Elem {
	// The limbs of 2 p are added: each is greater than a loose one, so nothing falls below 0.
	const first, other = 2 * (limbMask - 18), 2 * limbMask
	a0, a1, a2, a3, a4 := a.loose()
	b0, b1, b2, b3, b4 := b.loose()
	a0, a1, a2, a3, a4 = least(a0+first-b0, a1+other-b1, a2+other-b2, a3+other-b3, a4+other-b4)
	return Elem{a0, a1, a2, a3, a4}
}

// Neg: -a.
func (a Elem) Neg() Elem { return Elem{}.Sub(a) }

// Mul: a b.
func (a Elem) Mul(b Elem) Elem {
	a0, a1, a2, a3, a4 := a.loose()
	b0, b1, b2, b3, b4 := b.loose()
	// Products of limbs whose place is 2^255 or beyond come back 19-fold, five places lower.
	a1x19, a2x19, a3x19, a4x19 := 19*a1, 19*a2, 19*a3, 19*a4
	r0 := times(a0, b0).plus(a1x19, b4).plus(a2x19, b3).plus(a3x19, b2).plus(a4x19, b1)
	r1 := times(a0, b1).plus(a1, b0).plus(a2x19, b4).plus(a3x19, b3).plus(a4x19, b2)
	r2 := times(a0, b2).plus(a1, b1).plus(a2, b0).plus(a3x19, b4).plus(a4x19, b3)
	r3 := times(a0, b3).plus(a1, b2).plus(a2, b1).plus(a3, b0).plus(a4x19, b4)
	r4 := times(a0, b4).plus(a1, b3).plus(a2, b2).plus(a3, b1).plus(a4, b0)
	a0, a1, a2, a3, a4 = least(r0.limb()+19*r4.over(),
		r1.limb()+r0.over(), r2.limb()+r1.over(), r3.limb()+r2.over(), r4.limb()+r3.over())
	return Elem{a0, a1, a2, a3, a4}
}

// Square: a a.
func (a Elem) Square() Elem {
	a0, a1, a2, a3, a4 := a.loose()
	// As in Mul, but the products that would come twice are taken once, doubled.
	a0x2, a1x2, a1x38, a2x38, a3x38 := 2*a0, 2*a1, 38*a1, 38*a2, 38*a3
	a3x19, a4x19 := 19*a3, 19*a4
	r0 := times(a0, a0).plus(a1x38, a4).plus(a2x38, a3)
	r1 := times(a0x2, a1).plus(a2x38, a4).plus(a3x19, a3)
	r2 := times(a0x2, a2).plus(a1, a1).plus(a3x38, a4)
	r3 := times(a0x2, a3).plus(a1x2, a2).plus(a4x19, a4)
	r4 := times(a0x2, a4).plus(a1x2, a3).plus(a2, a2)
	a0, a1, a2, a3, a4 = least(r0.limb()+19*r4.over(),
		r1.limb()+r0.over(), r2.limb()+r1.over(), r3.limb()+r2.over(), r4.limb()+r3.over())
	return Elem{a0, a1, a2, a3, a4}
}

// Same: are they the same number?
func (a Elem) Same(b Elem) bool { return a.Least() == b.Least() }

// IsZero: is it 0?
func (a Elem) IsZero() bool { return a.Least() == Elem{} }

// sign: 1 for an odd least number, else 0.
func (a Elem) sign() int { return int(a.Least()[0] & 1) }

// Negative: is the least number odd?
func (a Elem) Negative() bool { return a.sign() == 1 }

// Abs: a or -a, the one that is not negative.
func (a Elem) Abs() Elem { return Select(a.sign(), a.Neg(), a) }

// Select: a, if the lowest bit of pick is 1, else b; the same steps for both.
func Select(pick int, a, b Elem) Elem {
	mask := -uint64(pick & 1)
	for i := range b {
		b[i] ^= mask & (a[i] ^ b[i])
	}
	return b.Least()
}
