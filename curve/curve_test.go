package curve_test

import (
	"math"
	"math/big"
	"slices"
	"testing"

	"veil/api"
	"veil/curve"
	"veil/field"
	"veil/sample"
	"veil/scalar"
)

// answers: what every call with Points answers, for one pair of them.
type answers struct {
	x, y   field.Elem
	points [9]api.Bytes32
	flags  [3]bool
}

func ask(a, b curve.Point) answers {
	x, y := a.Affine()
	k := scalar.Int(1 << 20).Invert()
	all := [9]curve.Point{
		a, a.Add(b), a.Sub(b), a.Neg(), a.Double(), a.Times(k), a.TimesBytes(api.Bytes32{7, 31: 255}), curve.Sum(a, b, a), b.Add(a),
	}
	r := answers{x: x, y: y, flags: [3]bool{a.Same(b), b.Same(a), a.Free()}}
	for i, p := range all {
		r.points[i] = p.Compress()
	}
	return r
}

func TestP401AnswersHangOnThePointsAlone(t *testing.T) {
	list := points(t, 3)
	for i, a := range list {
		b := list[(i+5)%len(list)]
		want := ask(a.point, b.point)
		for j, p := range looks(a) {
			for k, q := range looks(b) {
				if ask(p, q) != want {
					t.Fatalf("points %d, %d: other answers by their looks %d, %d", i, (i+5)%len(list), j, k)
				}
			}
		}
	}
}

func TestP401EveryCallEnds(t *testing.T) {
	full := uint64(math.MaxUint64)
	limbs := field.Elem{full, full, full, full, full}
	curve.FromAffine(limbs, limbs)
	for _, a := range points(t, 1) {
		a.point.Times(scalar.Scalar{full, full, full, full})
		a.point.TimesBytes(api.Bytes32(slices.Repeat([]byte{255}, 32)))
	}
	m := sample.Maker(40)
	for range 200 {
		curve.Decompress(m.Bytes32())
		curve.FromAffine(field.Elem{m.Next(), m.Next(), m.Next(), m.Next(), m.Next()}, field.Elem{m.Next()})
		curve.Torsion(int(m.Next()))
	}
}

func TestP401TheListIsLeftAlone(t *testing.T) {
	room := make([]curve.Point, 6)
	for i := range room {
		room[i] = curve.Base().Times(scalar.Int(uint64(i)))
	}
	was := slices.Clone(room)
	list := room[1:4]
	check(t, curve.Sum(list...), sample.Base().Times(big.NewInt(6)), "Sum")
	check(t, curve.Sum(list...), sample.Base().Times(big.NewInt(6)), "Sum once more")
	for i := range room {
		if room[i] != was[i] {
			t.Errorf("place %d of the list's room has changed", i)
		}
	}
}

// A Point that is copied is a point of its own.
func TestP401NoCallChangesAPoint(t *testing.T) {
	a := curve.Base()
	b := a
	b = b.Add(curve.Torsion(1)).Double()
	check(t, a, sample.Base(), "the base point, its copy changed")
	check(t, b, sample.Base().Add(torsionPair(1)).Times(big.NewInt(2)), "the copy")
}

func TestP402Base(t *testing.T) {
	check(t, curve.Base(), sample.Base(), "Base()")
}

func TestP402FromAffine(t *testing.T) {
	for i, a := range points(t, 5) {
		check(t, knows(t, a.pair).point, a.pair, "FromAffine of point %d", i)
	}
}

func TestP402AnyLimbs(t *testing.T) {
	for i, a := range points(t, 5) {
		for j, x := range sample.Elems(a.pair.X) {
			for k, y := range sample.Elems(a.pair.Y) {
				got, e := curve.FromAffine(x, y)
				if e != api.OK {
					t.Errorf("FromAffine of point %d by limbs %d, %d: error %d", i, j, k, e)
				}
				check(t, got, a.pair, "FromAffine of point %d by limbs %d, %d", i, j, k)
			}
		}
	}
}

// refused: FromAffine must answer ErrCurve, and the neutral point.
func refused(t *testing.T, x, y field.Elem) {
	t.Helper()
	if got, e := curve.FromAffine(x, y); e != api.ErrCurve || !neutral(got) {
		t.Errorf("FromAffine(%v, %v) = %v, %d", x, y, got, e)
	}
}

func TestP402NoPoint(t *testing.T) {
	for _, n := range [][2]int64{{0, 0}, {1, 1}, {1, 0}, {0, 2}, {2, 0}, {-1, 1}, {1, -1}, {2, 3}, {-1, -1}} {
		refused(t, elem(big.NewInt(n[0])), elem(big.NewInt(n[1])))
	}
	for _, a := range points(t, 5) {
		for _, wrong := range []sample.Pair{
			sample.NewPair(plus(a.pair.X, 1), a.pair.Y),
			sample.NewPair(a.pair.X, plus(a.pair.Y, 1)),
			sample.NewPair(a.pair.Y, a.pair.X),
		} {
			if _, e := curve.FromAffine(elem(wrong.X), elem(wrong.Y)); (e == api.OK) != wrong.On() {
				t.Errorf("FromAffine(%v, %v): error %d", wrong.X, wrong.Y, e)
			}
			if !wrong.On() {
				refused(t, elem(wrong.X), elem(wrong.Y))
			}
		}
	}
}

func TestP403Sums(t *testing.T) {
	list := points(t, 6)
	for i, a := range list {
		for j, b := range list {
			check(t, a.point.Add(b.point), a.pair.Add(b.pair), "point %d + point %d", i, j)
			check(t, a.point.Sub(b.point), a.pair.Add(b.pair.Neg()), "point %d - point %d", i, j)
			if got := a.point.Same(b.point); got != a.pair.Same(b.pair) {
				t.Errorf("point %d, point %d: Same is %t", i, j, got)
			}
		}
	}
}

func TestP403DoubleNeg(t *testing.T) {
	for i, a := range points(t, 6) {
		for j, look := range looks(a) {
			check(t, look.Double(), a.pair.Add(a.pair), "point %d by look %d, doubled", i, j)
			check(t, look.Neg(), a.pair.Neg(), "- point %d by look %d", i, j)
			check(t, look.Add(look), a.pair.Add(a.pair), "point %d by look %d, twice", i, j)
			check(t, look.Add(a.point.Neg()), sample.Neutral(), "point %d by look %d and its negative", i, j)
		}
	}
}

// Same must tell points apart that share one coordinate.
func TestP403SameByOneCoordinate(t *testing.T) {
	for i, a := range points(t, 6) {
		for j, look := range looks(a) {
			if got, want := look.Same(a.point.Neg()), a.pair.Same(a.pair.Neg()); got != want {
				t.Errorf("point %d by look %d and the one with its y: Same is %t", i, j, got)
			}
			other := a.point.Neg().Add(curve.Torsion(4)) // (x, -y)
			if got, want := look.Same(other), a.pair.Y.Sign() == 0; got != want {
				t.Errorf("point %d by look %d and the one with its x: Same is %t", i, j, got)
			}
		}
	}
}

func TestP403Sum(t *testing.T) {
	list := points(t, 6)
	want := sample.Neutral()
	var got []curve.Point
	check(t, curve.Sum(), want, "Sum of none")
	check(t, curve.Sum(got...), want, "Sum of nil")
	for i, a := range list {
		check(t, curve.Sum(a.point), a.pair, "Sum of point %d alone", i)
		got, want = append(got, a.point), want.Add(a.pair)
		check(t, curve.Sum(got...), want, "Sum of the first %d points", i+1)
	}
}
