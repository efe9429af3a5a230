package sample

import (
	"math/big"

	"veil/field"
	"veil/scalar"
)

// cut: the lowest pieces of a number, of so many bits each, the lowest first.
func cut(n *big.Int, pieces []uint64, bits uint) {
	rest := new(big.Int).Set(n)
	mask := new(big.Int).Sub(Power2(bits), big.NewInt(1))
	for i := range pieces {
		pieces[i] = new(big.Int).And(rest, mask).Uint64()
		rest.Rsh(rest, bits)
	}
}

// Elem: the field element of a number, by its least limbs.
func Elem(n *big.Int) field.Elem {
	var a field.Elem
	cut(new(big.Int).Mod(n, P()), a[:], 51)
	return a
}

// Elems: the field element of a number, by its least limbs and by others.
func Elems(n *big.Int) [4]field.Elem {
	ofP := field.Elem{1<<51 - 19, 1<<51 - 1, 1<<51 - 1, 1<<51 - 1, 1<<51 - 1}
	least := Elem(n)
	once, often := least, least
	for i := range least {
		once[i] += ofP[i]
		often[i] += 1000 * ofP[i]
	}
	moved := once
	moved[0] += 5 << 51
	moved[1] -= 5
	return [4]field.Elem{least, once, often, moved}
}

// Words: the limbs of a number below 2^256, as it is, not modulo l.
func Words(n *big.Int) scalar.Scalar {
	var a scalar.Scalar
	cut(n, a[:], 64)
	return a
}

// Scalar: the scalar of a number, by its least limbs.
func Scalar(n *big.Int) scalar.Scalar { return Words(new(big.Int).Mod(n, L())) }

// Scalars: the scalar of a number by all its limbs, the least first.
func Scalars(n *big.Int) []scalar.Scalar {
	var list []scalar.Scalar
	for n = new(big.Int).Mod(n, L()); n.BitLen() <= 256; n.Add(n, L()) {
		list = append(list, Words(n))
	}
	return list
}
