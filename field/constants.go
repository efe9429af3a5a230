package field

import "veil/api"

// table: the constants of the curve by their numbers; there is none of the number 0.
type table [api.CDMOneSq + 1]Elem

// constants: filled by init, never changed behind it.
var constants = table{}

func init() {
	constants = derive()
}

// derive: the constants by what they are. (It can't lean on Const or SqrtRatio: the table is still empty.)
func derive() (t table) {
	one := Int(1)
	i := rootOfMinusOne()
	d := Int(121665).Neg().Mul(Int(121666).Invert())
	square := d.Neg().Sub(one)
	root, _ := sqrtRatio(square, one, i)
	inverse, _ := sqrtRatio(one, square, i)

	t[api.CSqrtM1] = i
	t[api.CD] = d
	t[api.CSqrtADM1] = root.Neg() // the negative one: RFC 9496 fixes it so
	t[api.CInvSqrtAMD] = inverse
	t[api.COneMDSq] = one.Sub(d.Square())
	t[api.CDMOneSq] = d.Sub(one).Square()
	return t
}

// rootOfMinusOne: 2 is no square, so 2^((p - 1) / 2) is -1 and 2^((p - 1) / 4) a root of it; and (p - 1) / 4 = 2 ((p - 5) / 8) + 1.
func rootOfMinusOne() Elem {
	two := Int(2)
	return rootPower(two).Square().Mul(two).Abs()
}

// Const: a constant of the curve (api.CSqrtM1 ..); 0 for any other number.
func Const(which int) Elem {
	if which < api.CSqrtM1 || which > api.CDMOneSq {
		return Elem{}
	}
	return constants[which]
}
