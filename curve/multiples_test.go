package curve_test

import (
	"math"
	"math/big"
	"testing"

	"veil/api"
	"veil/curve"
	"veil/sample"
	"veil/scalar"
)

// some: points without torsion and with all kinds of it.
func some(t *testing.T) []known {
	t.Helper()
	base := sample.Base()
	m := sample.Maker(44)
	return []known{
		{curve.Point{}, sample.Neutral()},
		{curve.Base(), base},
		knows(t, base.Add(torsionPair(1))),
		knows(t, base.Times(anyNumber(&m)).Add(torsionPair(6))),
		knows(t, torsionPair(3)),
		knows(t, torsionPair(4)),
	}
}

// numbers: of 256 bits: the ends, multiples of l, digits alone at their places, others.
func numbers() []*big.Int {
	all := plus(sample.Power2(256), -1)
	list := []*big.Int{all, plus(all, -1), l, plus(l, -1), plus(l, 1), times(l, 8), plus(times(l, 8), -1), plus(times(l, 8), 3), times(l, 5), sample.Power2(255), sample.Power2(252)}
	for n := range int64(18) {
		list = append(list, big.NewInt(n))
	}
	for _, shift := range []uint{8, 12, 60, 64, 124, 248, 252} {
		list = append(list, new(big.Int).Lsh(big.NewInt(11), shift))
	}
	m := sample.Maker(45)
	for range 4 {
		list = append(list, anyNumber(&m))
	}
	return list
}

func TestP404TimesBytes(t *testing.T) {
	for i, a := range some(t) {
		for _, n := range numbers() {
			if n.BitLen() <= 256 {
				check(t, a.point.TimesBytes(sample.Bytes32(n)), a.pair.Times(n), "%d times point %d", n, i)
			}
		}
	}
}

// Each digit of the number counts at its place, alone and beside others.
func TestP404EveryPlace(t *testing.T) {
	for i, a := range some(t)[1:4] {
		power := a.pair
		for bit := range uint(256) {
			got := a.point.TimesBytes(sample.Bytes32(sample.Power2(bit)))
			check(t, got, power, "2^%d times point %d", bit, i)
			power = power.Add(power)
		}
	}
}

func TestP404Times(t *testing.T) {
	full := uint64(math.MaxUint64)
	least := scalar.Int(1).Neg()
	list := []scalar.Scalar{
		{}, {1}, {2}, {15}, {16}, {17}, least,
		{least[0] + 1, least[1], least[2], least[3]}, // l
		{least[0] + 2, least[1], least[2], least[3]},
		{full, full, full, full}, {0, 0, 0, full}, {0, 0, 0, 1 << 63}, {full},
	}
	m := sample.Maker(46)
	for range 4 {
		list = append(list, scalar.Scalar{m.Next(), m.Next(), m.Next(), m.Next()})
	}
	for i, a := range some(t) {
		for _, k := range list {
			b := k.Encode()
			n := sample.Number(b[:])
			check(t, a.point.Times(k), a.pair.Times(n), "%v times point %d", k, i)
		}
	}
}

// Times counts modulo l, TimesBytes does not: of a point with torsion l times is not neutral, 0 times is.
func TestP404NotModuloL(t *testing.T) {
	a := curve.Base().Add(curve.Torsion(1))
	least := scalar.Int(1).Neg()
	ofL := scalar.Scalar{least[0] + 1, least[1], least[2], least[3]}
	if !neutral(a.Times(ofL)) {
		t.Errorf("Times by limbs of l is not neutral")
	}
	check(t, a.TimesBytes(sample.Bytes32(l)), torsionPair(5), "TimesBytes by l, which is 5 modulo 8,")
	if !neutral(a.TimesBytes(sample.Bytes32(times(l, 8)))) || !neutral(a.TimesBytes(api.Bytes32{})) {
		t.Errorf("8 l times, 0 times: not neutral")
	}
}

// laws: what holds of all points and numbers.
func laws(t *testing.T, a, b, c curve.Point, j, k *big.Int) {
	t.Helper()
	by := func(p curve.Point, n *big.Int) curve.Point { return p.TimesBytes(sample.Bytes32(n)) }
	zero := curve.Point{}
	for what, sides := range map[string][2]curve.Point{
		"order":        {a.Add(b), b.Add(a)},
		"brackets":     {a.Add(b).Add(c), a.Add(b.Add(c))},
		"neutral":      {a.Add(zero), a},
		"neutral left": {zero.Add(a), a},
		"less itself":  {a.Sub(a), zero},
		"times k + j":  {by(a, k).Add(by(a, j)), by(a, new(big.Int).Add(k, j))},
		"k times both": {by(a.Add(b), k), by(a, k).Add(by(b, k))},
		"8 l times":    {by(a, times(l, 8)), zero},
		"scalars":      {a.Double().Times(scalar.Int(3)), a.Times(scalar.Int(6))},
	} {
		if !sides[0].Same(sides[1]) {
			t.Errorf("%s: the sides are not the same (j = %d, k = %d)", what, j, k)
		}
	}
}

func TestP407AGroup(t *testing.T) {
	m := sample.Maker(47)
	list := points(t, 8)
	one := func() curve.Point { return list[m.Next()%uint64(len(list))].point }
	for range 40 {
		j, k := anyNumber(&m), anyNumber(&m)
		j.Rsh(j, 1)
		k.Rsh(k, 1) // so that j + k has 256 bits
		laws(t, one(), one(), one(), j, k)
	}
	half := sample.Power2(255)
	laws(t, list[7].point, list[9].point, list[2].point, half, plus(half, -1))
}
