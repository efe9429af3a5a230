package sample

import (
	"math/big"

	"veil/scalar"
)

// Numbers: modulo l, place by place: what a group's element stands for, one number for each place of a Free element, one alone in the other groups.
type Numbers []*big.Int

// Mod: the number from 0 to l - 1.
func Mod(n *big.Int) *big.Int { return new(big.Int).Mod(n, L()) }

// NumberOf: the one that a scalar stands for.
func NumberOf(k scalar.Scalar) *big.Int {
	b := k.Encode()
	return Number(b[:])
}

// Limbs: a scalar by any of its limbs: one of those that Scalars lists, without making the others.
func (m *Maker) Limbs(n *big.Int) scalar.Scalar {
	n = Mod(n)
	most := new(big.Int).Sub(Power2(256), big.NewInt(1))
	looks := most.Sub(most, n).Div(most, L()).Uint64() + 1
	far := new(big.Int).SetUint64(m.Next() % looks)
	return Words(far.Mul(far, L()).Add(far, n))
}

// Number: from 0 to l - 1; 0, 1 and -1 come up often.
func (m *Maker) Number() *big.Int {
	if pick := m.Next() % 8; pick < 3 {
		return Mod(big.NewInt(int64(pick) - 1))
	}
	return Mod(Number(m.Bytes(40)))
}

// Small: small numbers.
func Small(ns ...int64) Numbers {
	list := make(Numbers, len(ns))
	for i, n := range ns {
		list[i] = Mod(big.NewInt(n))
	}
	return list
}

// At: the number in place i; 0 behind the last.
func (ns Numbers) At(i int) *big.Int {
	if i < len(ns) {
		return ns[i]
	}
	return new(big.Int)
}

// Plus: place by place.
func (ns Numbers) Plus(other Numbers) Numbers {
	sum := make(Numbers, max(len(ns), len(other)))
	for i := range sum {
		sum[i] = Mod(new(big.Int).Add(ns.At(i), other.At(i)))
	}
	return sum
}

// Times: each of them.
func (ns Numbers) Times(k *big.Int) Numbers {
	product := make(Numbers, len(ns))
	for i := range product {
		product[i] = Mod(new(big.Int).Mul(ns[i], k))
	}
	return product
}

// Same: are they the same at every place?
func (ns Numbers) Same(other Numbers) bool {
	for i := range max(len(ns), len(other)) {
		if ns.At(i).Cmp(other.At(i)) != 0 {
			return false
		}
	}
	return true
}
