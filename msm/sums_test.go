package msm_test

// P704 to P710: the sums, over the groups that are given and one of the test's own.

import (
	"math"
	"math/big"
	"slices"
	"testing"

	"veil/api"
	"veil/group"
	"veil/msm"
	"veil/sample"
	"veil/scalar"
)

// allWays: every way, with every width that it takes, must come to these numbers.
func (k kind[P]) allWays(t *testing.T, c sums[P]) {
	t.Helper()
	k.one(t, "Plain", msm.Plain(c.terms...), c.want)
	got, _ := msm.Sum(c.terms...)
	k.one(t, "Sum", got, c.want)
	for w := 1; w <= 12; w++ {
		got, _, e := msm.Pippenger(w, c.terms...)
		k.one(t, "Pippenger", got, c.want)
		if e != api.OK {
			t.Errorf("Pippenger(%d), over %s: error %d", w, k.Name, e)
		}
		if w > 8 {
			continue
		}
		got, _, e = msm.Straus(w, c.terms...)
		k.one(t, "Straus", got, c.want)
		if e != api.OK {
			t.Errorf("Straus(%d), over %s: error %d", w, k.Name, e)
		}
	}
}

// widest: scalars whose digits to the base 2^w are all as great as may be, or as small, or 1, as far as they go.
func widest() []*big.Int {
	var list []*big.Int
	for w := uint(1); w <= 12; w++ {
		for _, digit := range []int64{1 << (w - 1), 1 - 1<<(w-1), 1} {
			n := new(big.Int)
			for place := uint(0); place+w < 252; place += w {
				n.Add(n, new(big.Int).Mul(big.NewInt(digit), sample.Power2(place)))
			}
			list = append(list, sample.Mod(n))
		}
	}
	return list
}

func everySum[P msm.Group[P]](t *testing.T, k kind[P], counts ...int) {
	m := sample.Maker(711)
	for _, count := range counts {
		k.allWays(t, k.terms(&m, count))
	}
}

func TestP709AllWays(t *testing.T) {
	everySum(t, lines(), 0, 1, 2, 3, 5, 17, 64, 300)
	everySum(t, frees(), 0, 1, 2, 3, 5, 17, 64)
	everySum(t, boxes(), 0, 1, 2, 3, 5, 17)
	everySum(t, points(), 0, 1, 2, 3, 17)
}

func everyEdge[P msm.Group[P]](t *testing.T, k kind[P], scalars []*big.Int) {
	m := sample.Maker(712)
	for _, times := range scalars {
		alone := k.more(&m, sums[P]{}, times, sample.Small(3))
		k.allWays(t, alone)
		k.allWays(t, k.more(&m, alone, m.Number(), sample.Small(-2)))
	}
	for _, ns := range []numbers{nil, sample.Small(0), sample.Small(1), sample.Small(-1)} {
		c := k.more(&m, sums[P]{}, big.NewInt(0), ns)
		k.allWays(t, c)
		k.allWays(t, k.more(&m, c, big.NewInt(0), ns))
		c = k.more(&m, c, sample.Mod(big.NewInt(-1)), ns)
		k.allWays(t, k.more(&m, c, big.NewInt(1), ns)) // which comes to nothing
	}
}

func TestP709EdgesOfScalars(t *testing.T) {
	m := sample.Maker(713)
	everyEdge(t, lines(), append(widest(), edges(&m)...))
	everyEdge(t, frees(), append(widest()[12:18], edges(&m)...))
	everyEdge(t, boxes(), edges(&m)[:7])
	everyEdge(t, points(), edges(&m)[:4])
}

// The same element many times over, and beside its negative: buckets and multiples meet themselves.
func TestP709ElementsThatAreTheSame(t *testing.T) {
	m := sample.Maker(714)
	for _, times := range append(sample.Small(1, 2, 3, -1), m.Number()) {
		c, d := sums[msm.Line]{}, sums[group.Point]{}
		k, p := lines(), points()
		for i := range 9 {
			ns := sample.Small(5)
			if i%4 == 3 {
				ns = sample.Small(-5)
			}
			c, d = k.more(&m, c, times, ns), p.more(&m, d, times, ns)
		}
		k.allWays(t, c)
		p.allWays(t, d)
	}
}

func everyPlain[P msm.Group[P]](t *testing.T, k kind[P], counts ...int) {
	m := sample.Maker(715)
	for _, count := range counts {
		c := k.terms(&m, count)
		k.one(t, "Plain", msm.Plain(c.terms...), c.want)
	}
}

func TestP704Plain(t *testing.T) {
	everyPlain(t, lines(), 0, 1, 2, 3, 100, 8193)
	everyPlain(t, frees(), 0, 1, 2, 3, 50)
	everyPlain(t, boxes(), 0, 1, 2, 3, 50)
	everyPlain(t, points(), 0, 1, 2, 3, 20)
}

func wrongWidths[P msm.Group[P]](t *testing.T, k kind[P]) {
	m := sample.Maker(716)
	some := k.terms(&m, 3).terms
	tooMany := slices.Repeat(some, api.MaxTerms/3+1)[:api.MaxTerms+1]
	for _, terms := range [][]msm.Term[P]{nil, some, tooMany} {
		for _, w := range []int{math.MinInt, -256, -1, 0, 9, 10, 12, 13, 64, 256, math.MaxInt} {
			got, c, e := msm.Straus(w, terms...)
			k.refused(t, "Straus", got, c, e, api.ErrArg)
		}
		for _, w := range []int{math.MinInt, -256, -1, 0, 13, 14, 64, 256, math.MaxInt} {
			got, c, e := msm.Pippenger(w, terms...)
			k.refused(t, "Pippenger", got, c, e, api.ErrArg)
		}
	}
	for w := 1; w <= 12; w++ {
		if w <= 8 {
			got, c, e := msm.Straus(w, tooMany...)
			k.refused(t, "Straus", got, c, e, api.ErrLength)
		}
		got, c, e := msm.Pippenger(w, tooMany...)
		k.refused(t, "Pippenger", got, c, e, api.ErrLength)
	}
}

func TestP705P706WrongWidthsAndTooManyTerms(t *testing.T) {
	wrongWidths(t, lines())
	wrongWidths(t, frees())
	wrongWidths(t, boxes())
	wrongWidths(t, points())
}

// manyTerms: by both ways at both ends of what they take, and by Sum.
func manyTerms[P msm.Group[P]](t *testing.T, k kind[P], c sums[P], widths ...int) {
	for _, w := range widths {
		got, cost, e := msm.Straus(min(w, 8), c.terms...)
		k.one(t, "Straus", got, c.want)
		if most := strausMost(len(c.terms), min(w, 8)); e != api.OK || cost.Adds+cost.Doubles > most {
			t.Errorf("Straus(%d) of %d terms, over %s: cost %v, error %d, allowed %d", min(w, 8), len(c.terms), k.Name, cost, e, most)
		}
		got, cost, e = msm.Pippenger(w, c.terms...)
		k.one(t, "Pippenger", got, c.want)
		if most := pippengerMost(len(c.terms), w); e != api.OK || cost.Adds+cost.Doubles > most {
			t.Errorf("Pippenger(%d) of %d terms, over %s: cost %v, error %d, allowed %d", w, len(c.terms), k.Name, cost, e, most)
		}
	}
	got, cost := msm.Sum(c.terms...)
	k.one(t, "Sum", got, c.want)
	if cost.Adds+cost.Doubles > msm.Bound(len(c.terms)) {
		t.Errorf("Sum of %d terms, over %s: cost %v, Bound %d", len(c.terms), k.Name, cost, msm.Bound(len(c.terms)))
	}
}

// often: the terms so many times over.
func (k kind[P]) often(c sums[P], times int) sums[P] {
	return sums[P]{slices.Repeat(c.terms, times), c.want.Times(big.NewInt(int64(times)))}
}

func TestP705P706P707MaxTerms(t *testing.T) {
	m := sample.Maker(717)
	l, f, p := lines(), frees(), points()
	manyTerms(t, l, l.terms(&m, api.MaxTerms), 1, 5, 8, 12)
	manyTerms(t, f, f.often(f.terms(&m, 1024), 8), 12)
	manyTerms(t, p, p.often(p.terms(&m, 64), 128), 9)
}

func TestP707SumOfAnyNumberOfTerms(t *testing.T) {
	m := sample.Maker(718)
	k := lines()
	for _, count := range []int{api.MaxTerms - 1, api.MaxTerms + 1, 2*api.MaxTerms + 1} {
		c := k.terms(&m, count)
		got, _ := msm.Sum(c.terms...)
		k.one(t, "Sum", got, c.want)
	}
	f := frees()
	c := f.often(f.terms(&m, 100), 83)
	got, _ := msm.Sum(c.terms...)
	f.one(t, "Sum", got, c.want)
}

func TestP707Bound(t *testing.T) {
	for _, n := range []int{math.MinInt, -8192, -2, -1, 8193, 8194, 1 << 20, math.MaxInt} {
		if msm.Bound(n) != 0 {
			t.Errorf("Bound(%d) = %d, want 0", n, msm.Bound(n))
		}
	}
	for n := range 8193 {
		want := math.MaxInt
		for w := 1; w <= 12; w++ {
			want = min(want, digits(w)*(n+1<<(w+1)+w+1))
		}
		if msm.Bound(n) != want {
			t.Fatalf("Bound(%d) = %d, want %d", n, msm.Bound(n), want)
		}
	}
}

func everyZip[P msm.Group[P]](t *testing.T, k kind[P]) {
	m := sample.Maker(719)
	for n := range 6 {
		c := k.terms(&m, n)
		ks, ps := make([]scalar.Scalar, n), make([]P, n)
		for i, term := range c.terms {
			ks[i], ps[i] = term.K, term.P
		}
		got, e := msm.Zip(ks, ps)
		if e != api.OK || len(got) != n {
			t.Fatalf("Zip of %d, over %s: %d terms, error %d", n, k.Name, len(got), e)
		}
		for i, term := range got {
			if !term.K.Same(ks[i]) || !term.P.Same(ps[i]) {
				t.Errorf("Zip, over %s: term %d is another", k.Name, i)
			}
		}
		for _, more := range []int{1, 2, 7} {
			longer, e := msm.Zip(append(ks, make([]scalar.Scalar, more)...), ps)
			if e != api.ErrLength || len(longer) != 0 {
				t.Errorf("Zip of %d scalars and %d elements, over %s: error %d", n+more, n, k.Name, e)
			}
			longer, e = msm.Zip(ks, append(ps, make([]P, more)...))
			if e != api.ErrLength || len(longer) != 0 {
				t.Errorf("Zip of %d scalars and %d elements, over %s: error %d", n, n+more, k.Name, e)
			}
		}
	}
}

func TestP708Zip(t *testing.T) {
	everyZip(t, lines())
	everyZip(t, frees())
	everyZip(t, boxes())
	everyZip(t, points())
}

// shuffled: the terms in another order.
func shuffled[P any](m *sample.Maker, terms []msm.Term[P]) []msm.Term[P] {
	list := slices.Clone(terms)
	for i := range list {
		j := m.Next() % uint64(i+1)
		list[i], list[j] = list[j], list[i]
	}
	return list
}

// linear: what the chapter says of sums, by one of the ways.
func linear[P msm.Group[P]](t *testing.T, k kind[P], way func(terms ...msm.Term[P]) P) {
	m := sample.Maker(720)
	var neutral P
	for _, count := range []int{0, 1, 2, 9} {
		a, b := k.terms(&m, count).terms, k.terms(&m, count+1).terms
		whole := way(append(slices.Clone(a), b...)...)
		if !whole.Same(way(a...).Add(way(b...))) {
			t.Errorf("over %s: the sum of two lists is not the sum of their sums", k.Name)
		}
		if !way(shuffled(&m, append(slices.Clone(a), b...))...).Same(whole) {
			t.Errorf("over %s: the sum in another order is another", k.Name)
		}
		times := m.Limbs(m.Number())
		multiplied := slices.Clone(b)
		for i := range multiplied {
			multiplied[i].K = multiplied[i].K.Mul(times)
		}
		if !way(multiplied...).Same(way(b...).Times(times)) {
			t.Errorf("over %s: the sum of multiples is not the multiple of the sum", k.Name)
		}
		idle := []msm.Term[P]{{P: k.Of(&m, sample.Small(7))}, {K: sample.Words(sample.L()), P: k.Of(&m, sample.Small(8))}, {K: m.Limbs(m.Number()), P: neutral}, {K: m.Limbs(big.NewInt(9)), P: k.Of(&m, sample.Small(0))}}
		if !way(shuffled(&m, append(idle, b...))...).Same(way(b...)) {
			t.Errorf("over %s: terms that are nothing change the sum", k.Name)
		}
	}
}

func everyLinear[P msm.Group[P]](t *testing.T, k kind[P]) {
	linear(t, k, msm.Plain[P])
	linear(t, k, func(terms ...msm.Term[P]) P {
		sum, _ := msm.Sum(terms...)
		return sum
	})
	for _, w := range []int{1, 4, 8, 12} {
		linear(t, k, func(terms ...msm.Term[P]) P {
			sum, _, _ := msm.Straus(min(w, 8), terms...)
			return sum
		})
		linear(t, k, func(terms ...msm.Term[P]) P {
			sum, _, _ := msm.Pippenger(w, terms...)
			return sum
		})
	}
}

func TestP710Linear(t *testing.T) {
	everyLinear(t, lines())
	everyLinear(t, frees())
	everyLinear(t, boxes())
	everyLinear(t, points())
}
