package ledger

import (
	"bytes"
	"math/bits"
	"slices"

	"veil/api"
	"veil/gens"
	"veil/hash"
	"veil/ranges"
	"veil/scalar"
	"veil/sigma"
	"veil/wire"
)

// outputLabel: of the transcript of an output's proof.
const outputLabel = "veil output"

// What stands ahead of the rest in what a kernel signs, so that none is taken for another kind's.
const (
	tagTx   = "veil tx"
	tagMint = "veil mint"
)

// placed: a coin, and its commitment, by which it has its place.
type placed struct {
	coin       Coin
	commitment api.Bytes32
}

// key: what it is ordered by.
func (c placed) key() api.Bytes32 { return c.commitment }

// byBytes: the order of commitments.
func byBytes(a, b api.Bytes32) int { return bytes.Compare(a[:], b[:]) }

// inOrder: coins in the order of their commitments.
func inOrder(coins []Coin) []placed {
	list := make([]placed, len(coins))
	for i, commitment := range ranges.Commit(coins...) {
		list[i] = placed{coins[i], commitment}
	}
	slices.SortFunc(list, func(a, b placed) int { return byBytes(a.commitment, b.commitment) })
	return list
}

// rising: is each one's commitment above that of the one ahead of it?
func rising[T any](list []T, key func(T) api.Bytes32) bool {
	for i := 1; i < len(list); i++ {
		if byBytes(key(list[i-1]), key(list[i])) >= 0 {
			return false
		}
	}
	return true
}

// amount: high 2^64 + low: the sum of many values can be 2^64 and more.
type amount struct{ high, low uint64 }

// plus: that much more.
func (a amount) plus(v uint64) amount {
	low, carry := bits.Add64(a.low, v, 0)
	return amount{a.high + carry, low}
}

// values: their sum.
func values(coins []Coin) amount {
	var sum amount
	for _, c := range coins {
		sum = sum.plus(c.V)
	}
	return sum
}

// blindings: their sum.
func blindings(coins []Coin) scalar.Scalar {
	var sum scalar.Scalar
	for _, c := range coins {
		sum = sum.Add(c.Blind)
	}
	return sum
}

// writeTx: the body of a transaction. The stream is long enough.
func (r Rules) writeTx(ins, outs []placed, fee uint64, stream []byte) ([]byte, api.Errno) {
	b := wire.AppendNumber([]byte{kindTx}, uint64(len(ins)))
	for _, c := range ins {
		b = append(b, c.commitment[:]...)
	}
	b = wire.AppendNumber(b, uint64(len(outs)))
	for i, c := range outs {
		output, e := r.writeOutput(c.coin, stream[r.tape()*i:])
		if e != api.OK {
			return nil, e
		}
		b = append(b, output...)
	}
	return wire.AppendNumber(b, fee), api.OK
}

// writeOutput: a coin's commitment and its proof, with the tape at the front of the stream.
func (r Rules) writeOutput(c Coin, stream []byte) ([]byte, api.Errno) {
	commitments, proof, e := ranges.ProveBytes(r.params(), outputLabel, []Coin{c}, stream)
	if e != api.OK {
		return nil, e
	}
	return slices.Concat(commitments[0][:], proof), api.OK
}

// sealed: a body with its kernel behind it; the nonce is at the front of the stream.
func sealed(tag string, body []byte, key scalar.Scalar, stream []byte) ([]byte, api.Errno) {
	blind, _ := gens.Point(api.GenBlind, 0)
	excess := blind.Times(key).Encode()
	message := messageOf(tag, body, excess)
	signature, e := sigma.Sign(blind, key, scalar.Wide(api.Bytes64(stream[:64])), message[:])
	if e != api.OK {
		return nil, e
	}
	c, answer := signature.C.Encode(), signature.Answers[0].Encode()
	return slices.Concat(body, excess[:], c[:], answer[:]), api.OK
}

// messageOf: what a kernel signs.
func messageOf(tag string, body []byte, excess api.Bytes32) api.Bytes64 {
	return hash.Sum([]byte(tag), body, excess[:])
}
