package group_test

import (
	"math/big"
	"testing"

	"veil/api"
	"veil/field"
	"veil/group"
	"veil/sample"
)

// maps: MapHalf of a number and of its negative, by any limbs, must answer what the chapter's words say.
func maps(t *testing.T, n *big.Int) {
	t.Helper()
	want := mapped(n)
	if !want.On() || !want.Times(new(big.Int).Lsh(l, 2)).Same(sample.Neutral()) {
		t.Fatalf("%d is mapped to %v, which stands for no element", n, want)
	}
	for _, t2 := range []*big.Int{n, neg(n)} {
		check(t, group.MapHalf(sample.Elem(t2)), want, "MapHalf(%d)", t2)
		for j, limbs := range sample.Elems(t2) {
			if got := group.MapHalf(limbs); !got.Same(group.MapHalf(sample.Elem(n))) {
				t.Errorf("MapHalf(%d) by limbs %d: %x", t2, j, got.Encode())
			}
		}
	}
}

func TestP506MapHalf(t *testing.T) {
	for n := range int64(12) {
		maps(t, big.NewInt(n))
	}
	m := sample.Maker(57)
	for range 12 {
		maps(t, new(big.Int).Mod(anyNumber(&m), p))
	}
	maps(t, i)
}

// v is 0 where t t is i / d or i d: then there is no root, and s is 0.
func TestP506MapHalfWhereVIsZero(t *testing.T) {
	for what, square := range map[string]*big.Int{"i / d": over(i, d), "i d": mul(i, d)} {
		n := root(square)
		if n == nil {
			t.Fatalf("%s is no square", what)
		}
		maps(t, n)
	}
}

// both: 64 bytes of two numbers below 2^256.
func both(first, second *big.Int) api.Bytes64 {
	return api.Bytes64(append(sample.Bytes(first, 32), sample.Bytes(second, 32)...))
}

func TestP506Map(t *testing.T) {
	m := sample.Maker(58)
	high := new(big.Int).Sub(sample.Power2(255), one)
	list := []*big.Int{new(big.Int), one, big.NewInt(2), p, new(big.Int).Add(p, big.NewInt(7)), high, new(big.Int).Sub(p, one)}
	for range 3 {
		list = append(list, new(big.Int).Rsh(anyNumber(&m), 1))
	}
	for _, a := range list {
		for _, b := range list {
			want := mapped(sum(a)).Add(mapped(sum(b)))
			check(t, group.Map(both(a, b)), want, "Map of %d, %d", a, b)
			for _, raised := range [][2]uint{{1, 0}, {0, 1}, {1, 1}} {
				code := both(new(big.Int).SetBit(a, 255, raised[0]), new(big.Int).SetBit(b, 255, raised[1]))
				if !isAt(t, group.Map(code), want) {
					t.Errorf("Map of %d, %d hangs on the highest bits %v", a, b, raised)
				}
			}
		}
	}
}

func TestP506MapIsTheSumOfTheHalves(t *testing.T) {
	m := sample.Maker(59)
	for range 20 {
		b := api.Bytes64(m.Bytes(64))
		first, second := field.Reduce(api.Bytes32(b[:32])), field.Reduce(api.Bytes32(b[32:]))
		if !group.Map(b).Same(group.MapHalf(first).Add(group.MapHalf(second))) {
			t.Errorf("Map(%x) is not the sum of its halves", b)
		}
	}
}
