package curve_test

import (
	"math"
	"math/big"
	"testing"

	"veil/curve"
	"veil/sample"
)

func TestP405Torsion(t *testing.T) {
	list := []int{math.MinInt, math.MinInt + 1, math.MinInt + 7, math.MaxInt, math.MaxInt - 1, math.MaxInt - 7, 1 << 40, -1<<40 - 3}
	for i := -20; i <= 20; i++ {
		list = append(list, i)
	}
	for _, i := range list {
		k := new(big.Int).Mod(big.NewInt(int64(i)), big8)
		check(t, curve.Torsion(i), torsionPair(k.Int64()), "Torsion(%d)", i)
	}
}

func TestP405Free(t *testing.T) {
	for i, a := range points(t, 16) {
		want := a.pair.Times(l).Same(sample.Neutral())
		for j, look := range looks(a) {
			if got := look.Free(); got != want {
				t.Errorf("point %d by look %d: Free is %t", i, j, got)
			}
		}
	}
}

func TestP409JustEightBecomeNeutral(t *testing.T) {
	for i, a := range points(t, 16) {
		among := 0
		for k := range 8 {
			if curve.Torsion(k).Same(a.point) {
				among++
			}
		}
		eight := a.point.Double().Double().Double()
		if got := neutral(eight); got != (among == 1) || among > 1 {
			t.Errorf("point %d: doubled three times neutral: %t; same as %d torsion points", i, got, among)
		}
		if !eight.Free() {
			t.Errorf("point %d: 8 times it is not free", i)
		}
	}
}

func TestP409TorsionIsNotFree(t *testing.T) {
	for i := -24; i <= 24; i++ {
		if got := curve.Torsion(i).Free(); got != (i%8 == 0) {
			t.Errorf("Torsion(%d): Free is %t", i, got)
		}
	}
}

func TestP409JustOneOfEight(t *testing.T) {
	for i, a := range points(t, 8) {
		free := 0
		for k := range 8 {
			if a.point.Add(curve.Torsion(k)).Free() {
				free++
			}
		}
		if free != 1 {
			t.Errorf("point %d: free with %d of the torsion points", i, free)
		}
	}
}
