package group_test

import (
	"math"
	"math/big"
	"slices"
	"sync"
	"testing"

	"veil/api"
	"veil/curve"
	"veil/field"
	"veil/group"
	"veil/sample"
	"veil/scalar"
)

// answers: what every call with Points answers, for one pair of them.
type answers struct {
	codes [8]api.Bytes32
	coset [4]api.Bytes32
	same  [3]bool
}

func ask(a, b group.Point) answers {
	r := answers{same: [3]bool{a.Same(b), b.Same(a), a.Same(a)}}
	all := [8]group.Point{
		a, a.Add(b), b.Add(a), a.Neg(), a.Double(), a.Times(scalar.Int(77).Invert()), a.Times(scalar.Int(1)), group.Sum(a, b, a),
	}
	for i, p := range all {
		r.codes[i] = p.Encode()
	}
	for i, c := range a.Coset() {
		r.coset[i] = c.Compress()
	}
	return r
}

func TestP501AnswersHangOnTheElementsAlone(t *testing.T) {
	list := points(t, 2)
	for n, a := range list {
		other := (n + 5) % len(list)
		b := list[other]
		want := ask(a.point, b.point)
		for j, p := range looks(t, a) {
			for k, q := range looks(t, b) {
				if ask(p, q) != want {
					t.Fatalf("elements %d, %d: other answers by their looks %d, %d", n, other, j, k)
				}
			}
		}
	}
}

func TestP501EveryCallEnds(t *testing.T) {
	full := uint64(math.MaxUint64)
	group.MapHalf(field.Elem{full, full, full, full, full})
	group.Map(api.Bytes64(slices.Repeat([]byte{255}, 64)))
	m := sample.Maker(51)
	for range 100 {
		group.Point{}.Decode(m.Bytes32())
		group.Map(api.Bytes64(m.Bytes(64)))
		c, _ := curve.Decompress(m.Bytes32())
		p, _ := group.FromCurve(c)
		p.Times(scalar.Scalar{full, full, full, full})
		p.Coset()
	}
}

func TestP501TheListIsLeftAlone(t *testing.T) {
	room := make([]group.Point, 6)
	for n := range room {
		room[n] = group.Base().Times(scalar.Int(uint64(n)))
	}
	was := slices.Clone(room)
	list := room[1:4]
	check(t, group.Sum(list...), sample.Base().Times(big.NewInt(6)), "Sum")
	check(t, group.Sum(list...), sample.Base().Times(big.NewInt(6)), "Sum once more")
	for n := range room {
		if room[n] != was[n] {
			t.Errorf("place %d of the list's room has changed", n)
		}
	}
}

// A coset is an array of its own: whoever writes into it changes nothing else.
func TestP501ACosetIsNew(t *testing.T) {
	a := group.Base()
	first := a.Coset()
	first[0], first[1], first[2], first[3] = curve.Point{}, curve.Torsion(1), curve.Torsion(2), curve.Torsion(3)
	if want := ask(group.Base(), group.Base()); ask(a, a) != want {
		t.Errorf("the base element has changed")
	}
	for n, c := range a.Coset() {
		if c.Compress() != inOrder(sample.Base())[n].Compress() {
			t.Errorf("point %d of the coset has changed", n)
		}
	}
}

// What is worked out once is the same for many that ask at the same time.
func TestP501ManyAtOnce(t *testing.T) {
	var wait sync.WaitGroup
	var got [16][2]api.Bytes32
	for n := range got {
		wait.Add(1)
		go func() {
			defer wait.Done()
			k := scalar.Int(uint64(n))
			got[n] = [2]api.Bytes32{group.Base().Times(k).Encode(), group.MapHalf(field.Int(uint64(n))).Encode()}
		}()
	}
	wait.Wait()
	for n, codes := range got {
		number := big.NewInt(int64(n))
		if codes != [2]api.Bytes32{toBytes(t, sample.Base().Times(number)), toBytes(t, mapped(number))} {
			t.Errorf("%d times the base element, or what %d is mapped to: %x", n, n, codes)
		}
	}
}

func TestP502Base(t *testing.T) {
	check(t, group.Base(), sample.Base(), "Base()")
}

func TestP502FromCurve(t *testing.T) {
	for n, a := range points(t, 4) {
		for k := range int64(8) {
			pair := a.pair.Add(torsion(k))
			got, e := group.FromCurve(onCurve(t, pair))
			if k%2 == 1 {
				if e != api.ErrPoint || !neutral(got) {
					t.Errorf("P508: FromCurve of element %d and Torsion(%d) = %x, %d", n, k, got.Encode(), e)
				}
				continue
			}
			if e != api.OK || !got.Same(a.point) {
				t.Errorf("FromCurve of element %d and Torsion(%d): error %d", n, k, e)
			}
			check(t, got, a.pair, "FromCurve of element %d and Torsion(%d)", n, k)
		}
	}
}

// Points of any y: half of them stand for an element, by 4 l times them.
func TestP502FromCurveOfAnyY(t *testing.T) {
	fourL := new(big.Int).Lsh(l, 2)
	kinds := map[api.Errno]int{}
	for y := range byte(40) {
		c, e := curve.Decompress(api.Bytes32{y})
		if e != api.OK {
			continue
		}
		x, _ := c.Affine()
		code := x.Encode()
		pair := sample.NewPair(sample.Number(code[:]), big.NewInt(int64(y)))
		want := api.ErrPoint
		if pair.Times(fourL).Same(sample.Neutral()) {
			want = api.OK
		}
		got, e := group.FromCurve(c)
		if e != want {
			t.Errorf("FromCurve of the point with y = %d: error %d, want %d", y, e, want)
		}
		if e != api.OK {
			pair = sample.Neutral()
		}
		check(t, got, pair, "FromCurve of the point with y = %d", y)
		kinds[e]++
	}
	if kinds[api.OK] < 5 || kinds[api.ErrPoint] < 5 {
		t.Errorf("too few points of one kind: %v", kinds)
	}
}

func TestP503Sums(t *testing.T) {
	list := points(t, 4)
	for n, a := range list {
		for m, b := range list {
			check(t, a.point.Add(b.point), a.pair.Add(b.pair), "element %d + element %d", n, m)
			if got := a.point.Same(b.point); got != same(a.pair, b.pair) {
				t.Errorf("element %d, element %d: Same is %t", n, m, got)
			}
		}
	}
}

func TestP503DoubleNeg(t *testing.T) {
	for n, a := range points(t, 4) {
		for j, look := range looks(t, a) {
			check(t, look.Double(), a.pair.Add(a.pair), "element %d by look %d, doubled", n, j)
			check(t, look.Neg(), a.pair.Neg(), "- element %d by look %d", n, j)
			if !look.Same(a.point) || !a.point.Same(look) || !neutral(look.Add(a.point.Neg())) {
				t.Errorf("element %d by look %d is not the same", n, j)
			}
			if got, want := look.Same(a.point.Neg()), same(a.pair, a.pair.Neg()); got != want {
				t.Errorf("element %d by look %d and its negative: Same is %t", n, j, got)
			}
		}
	}
}

func TestP503Sum(t *testing.T) {
	want := sample.Neutral()
	var got []group.Point
	check(t, group.Sum(), want, "Sum of none")
	check(t, group.Sum(got...), want, "Sum of nil")
	for n, a := range points(t, 4) {
		check(t, group.Sum(a.point), a.pair, "Sum of element %d alone", n)
		got, want = append(got, a.point), want.Add(a.pair)
		check(t, group.Sum(got...), want, "Sum of the first %d elements", n+1)
	}
}

// numbers: whose limbs and digits lie at their ends.
func numbers() []*big.Int {
	list := []*big.Int{new(big.Int).Sub(l, one), new(big.Int).Sub(l, big.NewInt(2)), sample.Power2(252), new(big.Int).Sub(sample.Power2(252), one)}
	for n := range int64(18) {
		list = append(list, big.NewInt(n))
	}
	m := sample.Maker(52)
	for range 3 {
		list = append(list, anyNumber(&m))
	}
	return list
}

func TestP503Times(t *testing.T) {
	m := sample.Maker(53)
	for n, a := range []known{
		{group.Point{}, sample.Neutral()},
		{group.Base(), sample.Base()},
		knows(t, sample.Base().Add(torsion(2))),
		knows(t, sample.Base().Times(anyNumber(&m)).Add(torsion(6))),
	} {
		for _, number := range numbers() {
			got := a.point.Times(sample.Scalar(number))
			check(t, got, a.pair.Times(new(big.Int).Mod(number, l)), "%d times element %d", number, n)
			for _, limbs := range sample.Scalars(number) {
				if !a.point.Times(limbs).Same(got) {
					t.Errorf("%d times element %d by limbs %v: another element", number, n, limbs)
				}
			}
		}
	}
}

// Each digit counts at its place: of the base element, which has its table, and of another look of it, which has none.
func TestP503TimesEveryPlace(t *testing.T) {
	other := knows(t, sample.Base().Add(torsion(4))).point
	power := sample.Base()
	for bit := range uint(253) {
		k := sample.Scalar(sample.Power2(bit))
		check(t, group.Base().Times(k), power, "2^%d times the base element", bit)
		check(t, other.Times(k), power, "2^%d times the base element by another look", bit)
		power = power.Add(power)
	}
	for place := uint(0); place < 252; place += 4 {
		for digit := range int64(16) {
			k := sample.Scalar(new(big.Int).Lsh(big.NewInt(digit), place))
			if !group.Base().Times(k).Same(other.Times(k)) {
				t.Errorf("%d 2^%d times the base element hangs on its look", digit, place)
			}
		}
	}
}

func TestP503TimesByAnyLook(t *testing.T) {
	other := knows(t, sample.Base().Add(torsion(6))).point
	m := sample.Maker(54)
	for range 200 {
		k := scalar.Scalar{m.Next(), m.Next(), m.Next(), m.Next()}
		if !group.Base().Times(k).Same(other.Times(k)) {
			t.Errorf("%v times the base element hangs on its look", k)
		}
	}
}

// laws: what holds of all elements and scalars.
func laws(t *testing.T, a, b, c group.Point, j, k scalar.Scalar) {
	t.Helper()
	zero := group.Point{}
	for what, sides := range map[string][2]group.Point{
		"order":         {a.Add(b), b.Add(a)},
		"brackets":      {a.Add(b).Add(c), a.Add(b.Add(c))},
		"neutral":       {a.Add(zero), a},
		"neutral left":  {zero.Add(a), a},
		"less itself":   {a.Add(a.Neg()), zero},
		"j + k times":   {a.Times(j).Add(a.Times(k)), a.Times(j.Add(k))},
		"j k times":     {a.Times(k).Times(j), a.Times(j.Mul(k))},
		"times a sum":   {a.Add(b).Times(k), a.Times(k).Add(b.Times(k))},
		"twice":         {a.Double(), a.Times(scalar.Int(2))},
		"-1 times":      {a.Times(scalar.Int(1).Neg()), a.Neg()},
		"sum in a list": {group.Sum(a, b, c), c.Add(b).Add(a)},
	} {
		if !sides[0].Same(sides[1]) || sides[0].Encode() != sides[1].Encode() {
			t.Errorf("%s: the sides are not the same (j = %v, k = %v)", what, j, k)
		}
	}
}

func TestP507AGroup(t *testing.T) {
	m := sample.Maker(55)
	list := points(t, 6)
	anyOf := func() group.Point { return list[m.Next()%uint64(len(list))].point }
	anyScalar := func() scalar.Scalar { return scalar.Scalar{m.Next(), m.Next(), m.Next(), m.Next()} }
	for range 30 {
		laws(t, anyOf(), anyOf(), anyOf(), anyScalar(), anyScalar())
	}
	last := scalar.Int(1).Neg()
	laws(t, group.Base(), list[5].point, anyOf(), last, last)
	laws(t, group.Base(), group.Base(), group.Base(), scalar.Int(1), last)
	laws(t, anyOf(), anyOf(), anyOf(), scalar.Int(0), last)
}

func TestP507OnlyTheNeutralElementBecomesNeutral(t *testing.T) {
	for n, a := range points(t, 4) {
		for _, k := range []scalar.Scalar{{1}, {2}, {4}, {8}, scalar.Int(1).Neg(), scalar.Int(8).Invert()} {
			if got, want := a.point.Times(k).Same(group.Point{}), same(a.pair, sample.Neutral()); got != want {
				t.Errorf("%v times element %d: neutral is %t", k, n, got)
			}
		}
		for _, zero := range sample.Scalars(new(big.Int)) {
			if !neutral(a.point.Times(zero)) {
				t.Errorf("%v times element %d is not neutral", zero, n)
			}
		}
	}
}
