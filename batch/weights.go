package batch

import (
	"veil/api"
	"veil/scalar"
	"veil/transcript"
)

// label: of the transcript of which the weights are drawn.
const label = "veil batch"

// Weights: what each item's sum is multiplied by.
func Weights(items ...Item) ([]api.Bytes32, api.Errno) {
	if len(items) > api.MaxItems {
		return nil, api.ErrArg
	}
	weights, e := weightsOf(items, transcript.New(label))
	return encodings(weights), e
}

// weightsOf: each hangs on all items. None beside an error of the Oracle.
func weightsOf(items []Item, o transcript.Oracle) ([]scalar.Scalar, api.Errno) {
	for _, x := range items {
		o.Absorb("item", x.parts()...)
	}
	weights := make([]scalar.Scalar, len(items))
	for i := range weights {
		k, e := o.Draw("weight")
		if e != api.OK {
			return nil, e
		}
		weights[i] = k
	}
	return weights, api.OK
}

// parts: all that an item says.
func (x Item) parts() [][]byte {
	parts := [][]byte{[]byte(x.Label), le64(x.Params.Bits), le64(x.Params.Count), x.Proof}
	for _, v := range x.V {
		parts = append(parts, v[:])
	}
	return parts
}

// le64: a number as 8 bytes, the lowest first; below 0 as its 64 bits.
func le64(n int) []byte {
	b := make([]byte, 8)
	for place := range b {
		b[place] = byte(n >> (8 * place))
	}
	return b
}

// encodings: of all scalars.
func encodings(list []scalar.Scalar) []api.Bytes32 {
	all := make([]api.Bytes32, len(list))
	for i, k := range list {
		all[i] = k.Encode()
	}
	return all
}
