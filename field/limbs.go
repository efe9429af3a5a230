package field

import "math/bits"

// Inside of the calls an element's limbs are five numbers of their own, not an
// array: so they stay in registers, which makes sums and products several times
// faster. They are "loose" while each is below 2^51 + 2^18: that keeps sums of
// their products below 2^128, and the number that they make below 2 p.

const (
	limbBits = 51
	limbMask = 1<<limbBits - 1
)

// carry makes any limbs loose: what a limb has beyond 51 bits goes to the next
// one, and from the last to the first 19-fold, because 2^255 stands for 19.
func carry(a0, a1, a2, a3, a4 uint64) (r0, r1, r2, r3, r4 uint64) {
	return a0&limbMask + 19*(a4>>limbBits),
		a1&limbMask + a0>>limbBits,
		a2&limbMask + a1>>limbBits,
		a3&limbMask + a2>>limbBits,
		a4&limbMask + a3>>limbBits
}

// loose: the element's limbs, made loose.
func (a Elem) loose() (a0, a1, a2, a3, a4 uint64) {
	return carry(a[0], a[1], a[2], a[3], a[4])
}

// least makes any limbs least. Loose, their number n is below 2 p, so p is to be
// taken off once or not at all; once just if n + 19 reaches 2^255.
func least(a0, a1, a2, a3, a4 uint64) (r0, r1, r2, r3, r4 uint64) {
	a0, a1, a2, a3, a4 = carry(a0, a1, a2, a3, a4)
	over := (a0 + 19) >> limbBits
	over = (a1 + over) >> limbBits
	over = (a2 + over) >> limbBits
	over = (a3 + over) >> limbBits
	over = (a4 + over) >> limbBits

	// Taking off p is adding 19 and dropping 2^255, which the last mask does.
	a0 += 19 * over
	a1 += a0 >> limbBits
	a2 += a1 >> limbBits
	a3 += a2 >> limbBits
	a4 += a3 >> limbBits
	return a0 & limbMask, a1 & limbMask, a2 & limbMask, a3 & limbMask, a4 & limbMask
}

// wide: a number of 128 bits: a sum of products of limbs.
type wide struct {
	high, low uint64
}

// times: a sum's first product.
func times(a, b uint64) wide {
	high, low := bits.Mul64(a, b)
	return wide{high, low}
}

// plus: the sum with one more product.
func (w wide) plus(a, b uint64) wide {
	high, low := bits.Mul64(a, b)
	low, over := bits.Add64(low, w.low, 0)
	high, _ = bits.Add64(high, w.high, over)
	return wide{high, low}
}

// limb: the lowest 51 bits.
func (w wide) limb() uint64 { return w.low & limbMask }

// over: what lies above them; below 2^58, if the sum is one of Mul or Square.
func (w wide) over() uint64 { return w.high<<(64-limbBits) | w.low>>limbBits }
