package curve_test

import (
	"math/big"
	"testing"

	"veil/api"
	"veil/curve"
	"veil/sample"
)

func TestP406Compress(t *testing.T) {
	for i, a := range points(t, 8) {
		for j, look := range looks(a) {
			if got := look.Compress(); got != a.pair.Compress() {
				t.Errorf("point %d by look %d: %v, want %v", i, j, got, a.pair.Compress())
			}
		}
	}
}

// withY: the point with this y and the x of this sign, and the error that the document names first.
func withY(y *big.Int, high bool) (sample.Pair, api.Errno) {
	if y.Cmp(p) >= 0 {
		return sample.Neutral(), api.ErrCanon
	}
	yy := new(big.Int).Mul(y, y)
	below := plus(new(big.Int).Mul(sample.D(), yy), 1)
	below.ModInverse(below.Mod(below, p), p)
	xx := below.Mul(below, plus(yy, -1))
	x := new(big.Int).ModSqrt(xx.Mod(xx, p), p)
	if x == nil {
		return sample.Neutral(), api.ErrCurve
	}
	if high && x.Sign() == 0 {
		return sample.Neutral(), api.ErrCanon
	}
	if (x.Bit(0) == 1) != high {
		x.Neg(x)
	}
	return sample.NewPair(x, y), api.OK
}

// decompresses: Decompress of a y with and without the highest bit must answer what withY does.
func decompresses(t *testing.T, y *big.Int) {
	t.Helper()
	for _, high := range []bool{false, true} {
		b := sample.Bytes32(y)
		if high {
			b[31] |= 128
		}
		want, fault := withY(y, high)
		got, e := curve.Decompress(b)
		if e != fault {
			t.Errorf("Decompress(y = %d, high %t): error %d, want %d", y, high, e, fault)
		}
		check(t, got, want, "Decompress(y = %d, high %t)", y, high)
		if e == api.OK && got.Compress() != b {
			t.Errorf("P408: Decompress(y = %d, high %t): its bytes are %v", y, high, got.Compress())
		}
	}
}

func TestP406Decompress(t *testing.T) {
	for n := range int64(60) {
		decompresses(t, big.NewInt(n))
		decompresses(t, plus(p, -n))
	}
	for n := p; n.BitLen() <= 255; n = plus(n, 1) { // up to 2^255 - 1
		decompresses(t, n)
	}
	m := sample.Maker(48)
	for range 60 {
		n := anyNumber(&m)
		decompresses(t, n.Rsh(n, 1))
	}
	for _, a := range points(t, 8) {
		decompresses(t, a.pair.Y)
	}
}

func TestP408Back(t *testing.T) {
	for i, a := range points(t, 16) {
		for j, look := range looks(a) {
			got, e := curve.Decompress(look.Compress())
			x, y := look.Affine()
			again, f := curve.FromAffine(x, y)
			if e != api.OK || f != api.OK || !got.Same(look) || !again.Same(look) {
				t.Errorf("point %d by look %d: errors %d, %d, or another point", i, j, e, f)
			}
		}
	}
}
