package group_test

import (
	"bytes"
	"encoding/hex"
	"slices"
	"testing"

	"veil/api"
	"veil/curve"
	"veil/field"
	"veil/group"
	"veil/scalar"
)

// is: an element must have these bytes, in hexadecimal digits.
func is(t *testing.T, what string, got group.Point, want string) {
	t.Helper()
	b := got.Encode()
	if hex.EncodeToString(b[:]) != want {
		t.Errorf("%s: %x, want %s", what, b, want)
	}
}

// ends: 32 bytes: a first one, thirty in the middle, a last one.
func ends(first, middle, last byte) api.Bytes32 {
	return api.Bytes32(slices.Concat([]byte{first}, bytes.Repeat([]byte{middle}, 30), []byte{last}))
}

func TestExample1ZeroPoint(t *testing.T) {
	var zero group.Point
	if zero.Encode() != (api.Bytes32{}) {
		t.Errorf("Encode: %x", zero.Encode())
	}
	if got, e := group.Base().Decode(api.Bytes32{}); e != api.OK || !got.Same(zero) {
		t.Errorf("Decode of zeros: %x, %d", got.Encode(), e)
	}
}

func TestExample2Base(t *testing.T) {
	base := group.Base()
	is(t, "Base()", base, "e2f2ae0a6abc4e71a884a961c500515f58e30b6aa582dd8db6a65945e08d2d76")
	is(t, "its double", base.Double(), "6a493210f7499cd17fecb510ae0cea23a110e8d5b901f8acadd3095c73a3b919")
	if !base.Times(scalar.Int(1).Neg()).Same(base.Neg()) {
		t.Errorf("l - 1 times the base element is not its negative")
	}
}

func TestExample3Decode(t *testing.T) {
	for _, example := range []struct {
		b api.Bytes32
		e api.Errno
	}{
		{ends(1, 0, 0), api.ErrCanon},
		{ends(0xed, 0xff, 0x7f), api.ErrCanon},
		{ends(0xff, 0xff, 0xff), api.ErrCanon},
		{ends(0xec, 0xff, 0x7f), api.ErrPoint},
		{ends(2, 0, 0), api.ErrPoint},
		{ends(4, 0, 0), api.OK},
		{ends(6, 0, 0), api.OK},
		{ends(0x14, 0, 0), api.OK},
	} {
		got, e := group.Point{}.Decode(example.b)
		if e != example.e || neutral(got) != (e != api.OK) {
			t.Errorf("Decode(%x) = %x, %d", example.b, got.Encode(), e)
		}
	}
}

func TestExample4FromCurve(t *testing.T) {
	three, _ := curve.Decompress(ends(3, 0, 0))
	for _, example := range []struct {
		what string
		c    curve.Point
		want group.Point
		e    api.Errno
	}{
		{"Torsion(2)", curve.Torsion(2), group.Point{}, api.OK},
		{"Torsion(1)", curve.Torsion(1), group.Point{}, api.ErrPoint},
		{"the base point and Torsion(6)", curve.Base().Add(curve.Torsion(6)), group.Base(), api.OK},
		{"the point of y = 3", three, group.Point{}, api.ErrPoint},
	} {
		if got, e := group.FromCurve(example.c); e != example.e || !got.Same(example.want) {
			t.Errorf("FromCurve of %s = %x, %d", example.what, got.Encode(), e)
		}
	}
}

func TestExample5Coset(t *testing.T) {
	i, one := field.Const(api.CSqrtM1), field.Int(1)
	for n, want := range []struct {
		x, y field.Elem
		code api.Bytes32
	}{
		{i, field.Elem{}, ends(0, 0, 0)},
		{i.Neg(), field.Elem{}, ends(0, 0, 0x80)},
		{field.Elem{}, one, ends(1, 0, 0)},
		{field.Elem{}, one.Neg(), ends(0xec, 0xff, 0x7f)},
	} {
		got := group.Point{}.Coset()[n]
		if x, y := got.Affine(); x != want.x || y != want.y || got.Compress() != want.code {
			t.Errorf("point %d: (%v, %v), %x", n, x, y, got.Compress())
		}
	}
}

func TestExample6Maps(t *testing.T) {
	zero := hex.EncodeToString(make([]byte, 32))
	is(t, "MapHalf(0)", group.MapHalf(field.Elem{}), zero)
	is(t, "MapHalf(1)", group.MapHalf(field.Int(1)), "7c1f61e938eac4c359ecb164c8b50f2f104a9e1e2e36f142493ba13102608560")
	is(t, "Map of zeros", group.Map(api.Bytes64{}), zero)
	is(t, "Map of 1 and 2", group.Map(api.Bytes64{0: 1, 32: 2}), "b61e20c715913b98af430b1970e02abf961af47da2f158a03943462007dad022")
	var b api.Bytes64
	for n := range b {
		b[n] = byte(n)
	}
	is(t, "Map of 0 to 63", group.Map(b), "2e7c4964f91f5f2b074a9bc147ef973c08dbe29683746f979f11358065a2d155")
}

func TestExample7Sum(t *testing.T) {
	if !neutral(group.Sum()) || !neutral(group.Sum(group.Base(), group.Base().Neg())) {
		t.Errorf("Sum of none, or of the base element and its negative, is not neutral")
	}
}
