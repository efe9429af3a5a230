// Package sample: what the tests of the layers share: inputs that look like chance and are the same in every run, and numbers of math/big, against which answers are held. The program itself does not call it.
package sample

import (
	"math/big"
	"slices"

	"veil/api"
)

// Maker: makes up inputs; those of one seed are always the same.
type Maker uint64

// Next: any number.
func (m *Maker) Next() uint64 {
	*m += 0x9e3779b97f4a7c15
	z := uint64(*m)
	z = (z ^ z>>30) * 0xbf58476d1ce4e5b9
	z = (z ^ z>>27) * 0x94d049bb133111eb
	return z ^ z>>31
}

// Bytes: n bytes, any of them.
func (m *Maker) Bytes(n int) []byte {
	b := make([]byte, n)
	for i := range b {
		b[i] = byte(m.Next())
	}
	return b
}

// Bytes32: 32 bytes, any of them.
func (m *Maker) Bytes32() api.Bytes32 { return api.Bytes32(m.Bytes(32)) }

// Power2: 2^n.
func Power2(n uint) *big.Int { return new(big.Int).Lsh(big.NewInt(1), n) }

// Decimal: the number of a decimal text; nil, if it is none.
func Decimal(s string) *big.Int {
	n, _ := new(big.Int).SetString(s, 10)
	return n
}

// P: 2^255 - 19.
func P() *big.Int { return new(big.Int).Sub(Power2(255), big.NewInt(19)) }

// L: the order of the group: 2^252 + 27742317777372353535851937790883648493. By its bytes, for it is asked for very often, and a decimal text is slow to read.
func L() *big.Int {
	return new(big.Int).SetBytes([]byte{
		0x10, 0, 0, 0, 0, 0, 0, 0, 0, 0, 0, 0, 0, 0, 0, 0,
		0x14, 0xde, 0xf9, 0xde, 0xa2, 0xf7, 0x9c, 0xd6, 0x58, 0x12, 0x63, 0x1a, 0x5c, 0xf5, 0xd3, 0xed,
	})
}

// Number: of bytes, the lowest first.
func Number(b []byte) *big.Int {
	back := slices.Clone(b)
	slices.Reverse(back)
	return new(big.Int).SetBytes(back)
}

// Bytes: a number below 2^(8 size) as so many bytes, the lowest first.
func Bytes(n *big.Int, size int) []byte {
	b := n.FillBytes(make([]byte, size))
	slices.Reverse(b)
	return b
}

// Bytes32: a number below 2^256 as bytes, the lowest first.
func Bytes32(n *big.Int) api.Bytes32 { return api.Bytes32(Bytes(n, 32)) }
