package group_test

import (
	"math/big"
	"testing"

	"veil/api"
	"veil/group"
	"veil/sample"
)

func TestP504Encode(t *testing.T) {
	for n, a := range points(t, 12) {
		want := toBytes(t, a.pair)
		for j, look := range looks(t, a) {
			if got := look.Encode(); got != want {
				t.Errorf("element %d by look %d: %x, want %x", n, j, got, want)
			}
		}
	}
}

// decodes: Decode of a number's bytes must answer what the chapter's words say, whatever the receiver is.
func decodes(t *testing.T, s *big.Int) api.Errno {
	t.Helper()
	b := sample.Bytes32(s)
	want, fault := fromBytes(b)
	for _, receiver := range []group.Point{{}, group.Base()} {
		got, e := receiver.Decode(b)
		if e != fault {
			t.Errorf("Decode(s = %d): error %d, want %d", s, e, fault)
		}
		check(t, got, want, "Decode(s = %d)", s)
		if e == api.OK && got.Encode() != b {
			t.Errorf("P508: Decode(s = %d): its bytes are %x", s, got.Encode())
		}
		if e != api.OK && !neutral(got) {
			t.Errorf("P2: Decode(s = %d): a Point beside the error %d", s, e)
		}
	}
	return fault
}

func TestP504Decode(t *testing.T) {
	kinds := map[api.Errno]int{}
	for n := range int64(60) {
		kinds[decodes(t, big.NewInt(n))]++
		kinds[decodes(t, new(big.Int).Sub(p, big.NewInt(n)))]++
	}
	m := sample.Maker(56)
	for range 60 {
		s := anyNumber(&m)
		kinds[decodes(t, s.SetBit(s.Rsh(s, 1), 0, 0))]++
	}
	if kinds[api.OK] < 20 || kinds[api.ErrPoint] < 20 || kinds[api.ErrCanon] < 20 {
		t.Errorf("too few bytes of one kind: %v", kinds)
	}
}

func TestP504DecodeTooGreat(t *testing.T) {
	twice := new(big.Int).Lsh(p, 1)
	all := new(big.Int).Sub(sample.Power2(256), one)
	for n := range int64(40) {
		off := big.NewInt(n)
		for _, s := range []*big.Int{
			new(big.Int).Add(p, off),
			new(big.Int).Add(twice, off),
			new(big.Int).Sub(all, off),
			new(big.Int).Add(sample.Power2(255), off), // the highest bit alone, and with the bytes of elements
		} {
			if s.BitLen() <= 256 && decodes(t, s) != api.ErrCanon {
				t.Errorf("%d is taken for canonical", s)
			}
		}
	}
	base := group.Base().Encode()
	base[31] |= 128
	if got, e := (group.Point{}).Decode(base); e != api.ErrCanon || !neutral(got) {
		t.Errorf("Decode of the base element's bytes with the highest bit = %x, %d", got.Encode(), e)
	}
}

// The numbers for which a part of the formula is 0: y = 0 where s s = 1, no y where s s = -1, v = 0 where ((1 + s s) / (1 - s s))^2 is -d.
func TestP504DecodeWhereAPartIsZero(t *testing.T) {
	for what, s := range map[string]*big.Int{"1": abs(one), "i": i, "i negative": neg(i)} {
		if e := decodes(t, s); e == api.OK {
			t.Errorf("s = %s is taken", what)
		}
	}
	if root(neg(d)) != nil {
		t.Errorf("-d is a square: v may be 0")
	}
	if e := decodes(t, abs(one)); e != api.ErrPoint {
		t.Errorf("s = p - 1: error %d", e)
	}
	if e := decodes(t, i); e != api.ErrPoint {
		t.Errorf("s = i: error %d", e)
	}
}

// The negative of an element's s is odd, and its product with i is another number that stands for none or another element.
func TestP508OneEncoding(t *testing.T) {
	for n, a := range points(t, 12) {
		b := a.point.Encode()
		got, e := group.Base().Decode(b)
		if e != api.OK || !got.Same(a.point) {
			t.Errorf("element %d: Decode of its bytes: error %d", n, e)
		}
		s := sample.Number(b[:])
		decodes(t, neg(s))
		decodes(t, abs(mul(i, s)))
		if s.Sign() != 0 {
			decodes(t, abs(over(one, s)))
		}
	}
}

func TestP508SameJustIfTheBytesAre(t *testing.T) {
	list := points(t, 6)
	for n, a := range list {
		for m, b := range list {
			if a.point.Same(b.point) != (a.point.Encode() == b.point.Encode()) {
				t.Errorf("elements %d, %d: Same says otherwise than their bytes", n, m)
			}
		}
	}
}

func TestP505Coset(t *testing.T) {
	for n, a := range points(t, 8) {
		want := inOrder(a.pair)
		for j, look := range looks(t, a) {
			for place, c := range look.Coset() {
				if x, y := c.Affine(); x != sample.Elem(want[place].X) || y != sample.Elem(want[place].Y) {
					t.Errorf("element %d by look %d: place %d is (%v, %v), want %v", n, j, place, x, y, want[place])
				}
				back, e := group.FromCurve(c)
				if e != api.OK || !back.Same(a.point) {
					t.Errorf("P508: element %d by look %d: FromCurve of place %d: error %d", n, j, place, e)
				}
			}
		}
	}
}
