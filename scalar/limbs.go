package scalar

import "math/bits"

// Inside of the calls a scalar's limbs are four numbers of their own, not an
// array, wherever they are gone through in order: so they stay in registers,
// which makes sums several times faster.

const (
	limbs    = 4
	limbBits = 64
)

// Places of the table.
const (
	prime  = iota // l
	shift         // 2^256 modulo l: Montgomery's form of 1
	shift2        // 2^512 modulo l: what brings a number into Montgomery's form
)

// table: the limbs of l and of the powers of two that the reduction wants.
var table = [3]Scalar{
	prime:  {0x5812631a5cf5d3ed, 0x14def9dea2f79cd6, 0x0000000000000000, 0x1000000000000000},
	shift:  {0xd6ec31748d98951d, 0xc6ef5bf4737dcf70, 0xfffffffffffffffe, 0x0fffffffffffffff},
	shift2: {0xa40611e3449c0f01, 0xd00e1ba768859347, 0xceec73d217f5be65, 0x0399411b7c309a3d},
}

// inverse: -1 / l modulo 2^64.
const inverse = 0xd2b51da312547e1b

// sum: of two numbers whose sum is below 2^256.
func sum(a0, a1, a2, a3, b0, b1, b2, b3 uint64) (r0, r1, r2, r3 uint64) {
	r0, over := bits.Add64(a0, b0, 0)
	r1, over = bits.Add64(a1, b1, over)
	r2, over = bits.Add64(a2, b2, over)
	r3, _ = bits.Add64(a3, b3, over)
	return r0, r1, r2, r3
}

// lessOnce makes a number below 2 l least: it takes off l, if it can. The steps are the same in both cases.
func lessOnce(a0, a1, a2, a3 uint64) (r0, r1, r2, r3 uint64) {
	r0, under := bits.Sub64(a0, table[prime][0], 0)
	r1, under = bits.Sub64(a1, table[prime][1], under)
	r2, under = bits.Sub64(a2, table[prime][2], under)
	r3, under = bits.Sub64(a3, table[prime][3], under)
	back := -under
	return r0 ^ back&(r0^a0), r1 ^ back&(r1^a1), r2 ^ back&(r2^a2), r3 ^ back&(r3^a3)
}

// least makes any limbs least.
func least(a0, a1, a2, a3 uint64) (r0, r1, r2, r3 uint64) {
	// If 2^252 fits n times, l fits at least n - 1 times, and what that leaves is below 2 l.
	n := a3 >> 60
	n -= (n + 15) >> 4

	// The third limb of l is 0 and its last one 2^60: two products are enough.
	high0, low0 := bits.Mul64(n, table[prime][0])
	high1, low1 := bits.Mul64(n, table[prime][1])
	low1, over := bits.Add64(low1, high0, 0)
	a0, under := bits.Sub64(a0, low0, 0)
	a1, under = bits.Sub64(a1, low1, under)
	a2, under = bits.Sub64(a2, high1+over, under)
	a3, _ = bits.Sub64(a3, n<<60, under)
	return lessOnce(a0, a1, a2, a3)
}

// step: a b + c + d, which is always below 2^128.
func step(a, b, c, d uint64) (high, low uint64) {
	high, low = bits.Mul64(a, b)
	low, over := bits.Add64(low, c, 0)
	high, _ = bits.Add64(high, 0, over)
	low, over = bits.Add64(low, d, 0)
	high, _ = bits.Add64(high, 0, over)
	return high, low
}

// montgomery: a b / 2^256 modulo l, by least limbs; a by any limbs, b by least ones.
func montgomery(a, b Scalar) Scalar {
	l := table[prime]
	var t0, t1, t2, t3, t4, over uint64
	for i := range limbs {
		over, t0 = step(a[i], b[0], t0, 0)
		over, t1 = step(a[i], b[1], t1, over)
		over, t2 = step(a[i], b[2], t2, over)
		t4, t3 = step(a[i], b[3], t3, over)

		// So many times l makes the lowest limb 0, which is dropped. What is left stays below 2 l, because b is below l.
		times := t0 * inverse
		over, _ = step(times, l[0], t0, 0)
		over, t0 = step(times, l[1], t1, over)
		over, t1 = step(times, l[2], t2, over)
		over, t2 = step(times, l[3], t3, over)
		t3 = t4 + over
	}
	t0, t1, t2, t3 = lessOnce(t0, t1, t2, t3)
	return Scalar{t0, t1, t2, t3}
}

// enter: Montgomery's form of a: 2^256 a modulo l.
func (a Scalar) enter() Scalar { return montgomery(a, table[shift2]) }

// leave: the number whose Montgomery's form a is; a by least limbs.
func (a Scalar) leave() Scalar { return montgomery(Int(1), a) }
