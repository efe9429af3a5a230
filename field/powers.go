package field

import "veil/api"

// Power: a to the power e, a number of 256 bits, the lowest byte first; 0 to the power 0 is 1.
func (a Elem) Power(e api.Bytes32) Elem {
	r := Int(1)
	for i := 8*len(e) - 1; i >= 0; i-- {
		r = r.Square()
		if e[i/8]>>(i%8)&1 == 1 {
			r = r.Mul(a)
		}
	}
	return r
}

// Invert: 1 / a; 0 for 0.
func (a Elem) Invert() Elem {
	// a^(p - 2), and p - 2 = 2^5 (2^250 - 1) + 11.
	to11, toOnes := ladder(a)
	return squares(toOnes, 5).Mul(to11)
}

// SqrtRatio: a square root of u / v, and whether there is one (else one of i u / v).
func SqrtRatio(u, v Elem) (Elem, bool) { return sqrtRatio(u, v, Const(api.CSqrtM1)) }

// sqrtRatio: SqrtRatio with the root i of -1 handed in.
func sqrtRatio(u, v, i Elem) (Elem, bool) {
	// With r = u v^3 (u v^7)^((p - 5) / 8), v r r is u times one of 1, -1, i, -i; and r is 0, if u or v is.
	v3 := v.Square().Mul(v)
	uv3 := u.Mul(v3)
	r := uv3.Mul(rootPower(uv3.Mul(v3).Mul(v)))

	got, minusU := v.Mul(r.Square()), u.Neg()
	minus := got.Same(minusU)
	if minus || got.Same(minusU.Mul(i)) {
		r = r.Mul(i) // so that v r r has the other sign
	}
	return r.Abs(), minus || got.Same(u)
}

// rootPower: a^((p - 5) / 8), and (p - 5) / 8 = 2^2 (2^250 - 1) + 1.
func rootPower(a Elem) Elem {
	_, toOnes := ladder(a)
	return squares(toOnes, 2).Mul(a)
}

// ladder: a^11 and a^(2^250 - 1). The two long exponents, p - 2 and (p - 5) / 8, share these steps, which take far fewer products than Power.
func ladder(a Elem) (to11, toOnes Elem) {
	to2 := a.Square()
	to9 := squares(to2, 2).Mul(a)
	to11 = to9.Mul(to2)
	ones5 := to11.Square().Mul(to9) // onesN: the exponent 2^N - 1
	ones10 := squares(ones5, 5).Mul(ones5)
	ones20 := squares(ones10, 10).Mul(ones10)
	ones40 := squares(ones20, 20).Mul(ones20)
	ones50 := squares(ones40, 10).Mul(ones10)
	ones100 := squares(ones50, 50).Mul(ones50)
	ones200 := squares(ones100, 100).Mul(ones100)
	return to11, squares(ones200, 50).Mul(ones50)
}

// squares: a squared n times over.
func squares(a Elem, n int) Elem {
	for range n {
		a = a.Square()
	}
	return a
}
