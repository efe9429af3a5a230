package transcript

// A Draw's bytes that are 0 modulo l cannot be found from outside: they are handed in where the Draw answers them.

import (
	"math/big"
	"testing"

	"veil/api"
	"veil/hash"
	"veil/sample"
	"veil/scalar"
)

// zeros: bytes of a Draw whose challenge is 0.
func zeros() []api.Bytes64 {
	most := new(big.Int).Sub(sample.Power2(512), big.NewInt(1))
	most.Div(most, sample.L())
	var list []api.Bytes64
	for _, times := range []*big.Int{new(big.Int), big.NewInt(1), big.NewInt(2), sample.Power2(128), most} {
		list = append(list, api.Bytes64(sample.Bytes(times.Mul(times, sample.L()), 64)))
	}
	return list
}

func TestP803ZeroMovesTheState(t *testing.T) {
	for _, d := range zeros() {
		tr := New("x")
		was := tr.State()
		if c, e := tr.drawn(d); c != (scalar.Scalar{}) || e != api.ErrZero {
			t.Fatalf("of %x: %v, %d", d, c, e)
		}
		if tr.State() != hash.Sum(Frame("drawn", was[:], d[:])) {
			t.Fatalf("of %x: the state has not gone on", d)
		}
	}
}

func TestP803OneIsAChallenge(t *testing.T) {
	for _, d := range zeros()[:4] {
		n := sample.Number(d[:])
		d = api.Bytes64(sample.Bytes(n.Add(n, big.NewInt(1)), 64))
		if c, e := New("x").drawn(d); c != scalar.Int(1) || e != api.OK {
			t.Fatalf("of %x: %v, %d", d, c, e)
		}
	}
}
