package curve_test

import (
	"bytes"
	"math/big"
	"slices"
	"testing"

	"veil/api"
	"veil/curve"
	"veil/field"
	"veil/sample"
	"veil/scalar"
)

func TestExample1ZeroPoint(t *testing.T) {
	var zero curve.Point
	if x, y := zero.Affine(); x != (field.Elem{}) || y != field.Int(1) {
		t.Errorf("Affine: %v, %v", x, y)
	}
	if zero.Compress() != (api.Bytes32{1}) || !zero.Free() {
		t.Errorf("Compress: %v, Free: %t", zero.Compress(), zero.Free())
	}
	check(t, curve.Base().Add(zero), sample.Base(), "the base point and the zero Point")
}

func TestExample2FromAffine(t *testing.T) {
	i := field.Const(api.CSqrtM1)
	for _, example := range []struct {
		what string
		x, y field.Elem
		want curve.Point
		e    api.Errno
	}{
		{"(0, 1)", field.Elem{}, field.Int(1), curve.Point{}, api.OK},
		{"(0, p - 1)", field.Elem{}, field.Int(1).Neg(), curve.Torsion(4), api.OK},
		{"(i, 0)", i, field.Elem{}, curve.Torsion(2), api.OK},
		{"(1, 1)", field.Int(1), field.Int(1), curve.Point{}, api.ErrCurve},
	} {
		if got, e := curve.FromAffine(example.x, example.y); e != example.e || !got.Same(example.want) {
			t.Errorf("FromAffine%s = %v, %d", example.what, got, e)
		}
	}
}

func TestExample3Base(t *testing.T) {
	base := curve.Base()
	want := append([]byte{88}, bytes.Repeat([]byte{102}, 31)...)
	if base.Compress() != api.Bytes32(want) {
		t.Errorf("Compress: %v", base.Compress())
	}
	if !base.Free() || base.Add(curve.Torsion(1)).Free() {
		t.Errorf("Free of the base point, alone and with Torsion(1)")
	}
	if !neutral(base.Times(scalar.Int(0))) || !neutral(base.TimesBytes(sample.Bytes32(l))) {
		t.Errorf("0 times, l times the base point: not neutral")
	}
}

// ends: 32 bytes: a first one, thirty in the middle, a last one.
func ends(first, middle, last byte) api.Bytes32 {
	return api.Bytes32(slices.Concat([]byte{first}, bytes.Repeat([]byte{middle}, 30), []byte{last}))
}

func TestExample4Decompress(t *testing.T) {
	for _, example := range []struct {
		b api.Bytes32
		e api.Errno
	}{
		{ends(1, 0, 128), api.ErrCanon},
		{ends(237, 255, 127), api.ErrCanon},
		{ends(2, 0, 0), api.ErrCurve},
	} {
		if got, e := curve.Decompress(example.b); e != example.e || !neutral(got) {
			t.Errorf("Decompress(%v) = %v, %d", example.b, got, e)
		}
	}
	three, e := curve.Decompress(ends(3, 0, 0))
	x := sample.Decimal("47490639360184182837601875270316946735278442122217188244898328344323804759522")
	check(t, three, sample.NewPair(x, big.NewInt(3)), "the point with y = 3")
	if e != api.OK || three.Free() || !three.TimesBytes(sample.Bytes32(l)).Same(curve.Torsion(3)) {
		t.Errorf("the point with y = 3: error %d, Free %t", e, three.Free())
	}
	if got, e := curve.Decompress(api.Bytes32{}); e != api.OK || !got.Same(curve.Torsion(2)) {
		t.Errorf("Decompress of zeros = %v, %d", got, e)
	}
}

func TestExample5Torsion(t *testing.T) {
	for what, p := range map[string]curve.Point{
		"Torsion(8)": curve.Torsion(8),
		"Torsion(0)": curve.Torsion(0),
		"Sum()":      curve.Sum(),
		"3 and 5":    curve.Torsion(3).Add(curve.Torsion(5)),
	} {
		if !neutral(p) {
			t.Errorf("%s is not neutral", what)
		}
	}
	if !curve.Torsion(-1).Same(curve.Torsion(1).Neg()) {
		t.Errorf("Torsion(-1) is not the negative of Torsion(1)")
	}
}
