package msm

import (
	"veil/api"
	"veil/hash"
	"veil/scalar"
)

// Free: lists of scalars as a group: place by place; what is missing at a list's end is 0.
type Free struct {
	K []scalar.Scalar
}

// Add: a + b.
func (a Free) Add(b Free) Free {
	return spread(max(len(a.K), len(b.K)), func(i int) scalar.Scalar { return a.at(i).Add(b.at(i)) })
}

// Neg: -a.
func (a Free) Neg() Free {
	return spread(len(a.K), func(i int) scalar.Scalar { return a.K[i].Neg() })
}

// Double: a + a.
func (a Free) Double() Free { return a.Add(a) }

// Times: k a.
func (a Free) Times(k scalar.Scalar) Free {
	return spread(len(a.K), func(i int) scalar.Scalar { return a.K[i].Mul(k) })
}

// Same: are they the same?
func (a Free) Same(b Free) bool {
	for i := range max(len(a.K), len(b.K)) {
		if !a.at(i).Same(b.at(i)) {
			return false
		}
	}
	return true
}

// Encode: a hash of the scalars.
func (a Free) Encode() api.Bytes32 {
	said := []byte("free")
	for _, k := range shorn(a.K) {
		b := k.Encode()
		said = append(said, b[:]...)
	}
	sum := hash.Sum(said)
	return api.Bytes32(sum[:32])
}

// Decode: api.ErrPoint: there is no way back.
func (a Free) Decode(b api.Bytes32) (Free, api.Errno) { return Free{}, api.ErrPoint }

// at: the scalar in place i, from 0 on.
func (a Free) at(i int) scalar.Scalar {
	if i < len(a.K) {
		return a.K[i]
	}
	return scalar.Scalar{}
}

// spread: the element of these scalars.
func spread(count int, at func(i int) scalar.Scalar) Free {
	list := make([]scalar.Scalar, count)
	for i := range list {
		list[i] = at(i)
	}
	return Free{shorn(list)}
}

// shorn: the list without the zeros at its end.
func shorn(list []scalar.Scalar) []scalar.Scalar {
	count := len(list)
	for count > 0 && list[count-1].IsZero() {
		count--
	}
	return list[:count]
}
