package msm_test

// P705 to P707 and P711: what a sum costs, told and counted; P701: all that a call has started has ended when it answers.

import (
	"math/big"
	"runtime"
	"slices"
	"sync/atomic"
	"testing"
	"time"

	"veil/api"
	"veil/msm"
	"veil/sample"
	"veil/scalar"
)

// How often the methods of counted were called, how many of these calls are under way, and whether they step aside for others.
var (
	adds, doubles, multiples, underWay atomic.Int64
	stepAside                          atomic.Bool
)

// counted: the scalars as a group that counts what is called.
type counted struct{ line msm.Line }

// enter: for the time of a call.
func enter(counter *atomic.Int64) func() {
	counter.Add(1)
	underWay.Add(1)
	if stepAside.Load() {
		runtime.Gosched()
	}
	return func() { underWay.Add(-1) }
}

func (a counted) Add(b counted) counted {
	defer enter(&adds)()
	return counted{a.line.Add(b.line)}
}

func (a counted) Double() counted {
	defer enter(&doubles)()
	return counted{a.line.Double()}
}

func (a counted) Times(k scalar.Scalar) counted {
	defer enter(&multiples)()
	return counted{a.line.Times(k)}
}

func (a counted) Neg() counted        { return counted{a.line.Neg()} }
func (a counted) Same(b counted) bool { return a.line.Same(b.line) }
func (a counted) Encode() api.Bytes32 { return a.line.Encode() }
func (a counted) Decode(b api.Bytes32) (counted, api.Errno) {
	line, e := a.line.Decode(b)
	return counted{line}, e
}

func counters() kind[counted] {
	return kind[counted]{sample.Kind[counted]{
		Name:  "a group that counts",
		Width: 1,
		Of:    func(m *sample.Maker, ns numbers) counted { return counted{lines().Of(m, ns)} },
		To:    func(a counted) numbers { return lines().To(a.line) },
	}}
}

// trueCost: the cost of a call must be what was counted, within what is allowed, and without Times.
func trueCost(t *testing.T, what string, c sums[counted], most int, call func() (counted, msm.Cost, api.Errno)) {
	t.Helper()
	adds.Store(0)
	doubles.Store(0)
	multiples.Store(0)
	got, told, e := call()
	seen := msm.Cost{Adds: int(adds.Load()), Doubles: int(doubles.Load())}
	if e != api.OK || told != seen {
		t.Errorf("%s of %d terms: cost %v, error %d, counted %v", what, len(c.terms), told, e, seen)
	}
	if seen.Adds+seen.Doubles > most {
		t.Errorf("%s of %d terms: cost %v, allowed %d", what, len(c.terms), told, most)
	}
	if multiples.Load() != 0 {
		t.Errorf("%s of %d terms calls Times", what, len(c.terms))
	}
	counters().one(t, what, got, c.want)
}

// trueCosts: of every way, with every width that it takes.
func trueCosts(t *testing.T, c sums[counted]) {
	t.Helper()
	most := msm.Bound(len(c.terms))
	if len(c.terms) == 0 {
		most = 0
	}
	trueCost(t, "Sum", c, most, func() (counted, msm.Cost, api.Errno) {
		sum, cost := msm.Sum(c.terms...)
		return sum, cost, api.OK
	})
	for w := 1; w <= 12; w++ {
		if w <= 8 {
			trueCost(t, "Straus", c, strausMost(len(c.terms), w), func() (counted, msm.Cost, api.Errno) { return msm.Straus(w, c.terms...) })
		}
		trueCost(t, "Pippenger", c, pippengerMost(len(c.terms), w), func() (counted, msm.Cost, api.Errno) { return msm.Pippenger(w, c.terms...) })
	}
}

func TestP711CostIsTrue(t *testing.T) {
	m := sample.Maker(721)
	k := counters()
	for count := range 12 {
		trueCosts(t, k.terms(&m, count))
	}
	for _, count := range []int{40, 150, 700} {
		trueCosts(t, k.terms(&m, count))
	}
}

// The scalars that cost most: no digit is 0, and the greatest come up.
func TestP705P706P707CostAtMost(t *testing.T) {
	m := sample.Maker(722)
	k := counters()
	costly := append(widest(), sample.Small(-1, -2)...)
	for _, count := range []int{1, 2, 3, 30, 300} {
		for i := range costly {
			if count > 3 && i%6 != 0 {
				continue
			}
			c := sums[counted]{}
			for j := range count {
				c = k.more(&m, c, costly[(i+j/3)%len(costly)], sample.Small(int64(j)+1))
			}
			trueCosts(t, c)
		}
	}
}

func TestP707CostOfSumForEveryNumberOfTerms(t *testing.T) {
	m := sample.Maker(723)
	k := counters()
	all := k.terms(&m, 600)
	for i := range all.terms {
		all.terms[i].K = sample.Scalar(sample.Number(m.Bytes(40)))
	}
	for n := 1; n <= len(all.terms); n += 1 + n/20 {
		_, cost := msm.Sum(all.terms[:n]...)
		if cost.Adds+cost.Doubles > msm.Bound(n) {
			t.Errorf("Sum of %d terms: cost %v, Bound %d", n, cost, msm.Bound(n))
		}
	}
	many := slices.Repeat(all.terms, 14)
	for _, n := range []int{1000, 2000, 4000, 8191, 8192} {
		_, cost := msm.Sum(many[:n]...)
		if cost.Adds+cost.Doubles > msm.Bound(n) {
			t.Errorf("Sum of %d terms: cost %v, Bound %d", n, cost, msm.Bound(n))
		}
	}
}

// Beyond MaxTerms nothing is said of how much it is, but it is told.
func TestP711CostOfVeryManyTerms(t *testing.T) {
	m := sample.Maker(724)
	k := counters()
	c := k.often(k.terms(&m, 100), 170)
	trueCost(t, "Sum", c, 1<<62, func() (counted, msm.Cost, api.Errno) {
		sum, cost := msm.Sum(c.terms...)
		return sum, cost, api.OK
	})
}

func TestP705P706P707WithoutTerms(t *testing.T) {
	var nothing sums[counted]
	trueCosts(t, nothing)
	nothing.terms = []msm.Term[counted]{}
	trueCosts(t, nothing)
}

// The cost, too, hangs on what the terms stand for alone, and is the same every time.
func TestP701CostOfOtherLooks(t *testing.T) {
	for _, count := range []int{1, 5, 250} {
		var first []msm.Cost
		for look := range 4 {
			m := sample.Maker(725)
			other := sample.Maker(look)
			c := sums[msm.Free]{}
			for range count {
				c = frees().more(&other, c, m.Number(), frees().Any(&m))
			}
			costs := make([]msm.Cost, 3)
			_, costs[0] = msm.Sum(c.terms...)
			_, costs[1], _ = msm.Straus(5, c.terms...)
			_, costs[2], _ = msm.Pippenger(6, c.terms...)
			if first == nil {
				first = costs
			}
			if !slices.Equal(costs, first) {
				t.Errorf("%d terms by other looks cost %v, not %v", count, costs, first)
			}
		}
	}
}

func TestP701GoroutinesHaveEnded(t *testing.T) {
	stepAside.Store(true)
	defer stepAside.Store(false)
	m := sample.Maker(726)
	c := counters().terms(&m, 200)
	for w := 1; w <= 12; w++ {
		before := runtime.NumGoroutine()
		got, _, _ := msm.Pippenger(w, c.terms...)
		if underWay.Load() != 0 {
			t.Errorf("Pippenger(%d): calls are under way when it has answered", w)
		}
		count := adds.Load() + doubles.Load()
		for range 100 {
			if runtime.NumGoroutine() <= before {
				break
			}
			time.Sleep(time.Millisecond)
		}
		if after := runtime.NumGoroutine(); after > before {
			t.Errorf("Pippenger(%d): %d goroutines behind it, %d ahead of it", w, after, before)
		}
		if adds.Load()+doubles.Load() != count {
			t.Errorf("Pippenger(%d) goes on when it has answered", w)
		}
		counters().one(t, "Pippenger", got, c.want)
	}
}

// Calls at one time do not disturb each other.
func TestP701CallsAtOneTime(t *testing.T) {
	m := sample.Maker(727)
	k := frees()
	c := k.terms(&m, 300)
	want, cost := msm.Sum(c.terms...)
	k.one(t, "Sum", want, c.want)
	answers := make(chan bool)
	for range 8 {
		go func() {
			got, again := msm.Sum(c.terms...)
			answers <- got.Same(want) && again == cost
		}()
	}
	for range 8 {
		if !<-answers {
			t.Errorf("a sum beside others is another")
		}
	}
}

// The number 2^252 has digits in its highest place alone: what stands below costs doublings only, and nothing is lost.
func TestP709HighestPlace(t *testing.T) {
	m := sample.Maker(728)
	k := counters()
	for bit := uint(240); bit <= 252; bit++ {
		trueCosts(t, k.more(&m, sums[counted]{}, sample.Mod(sample.Power2(bit)), sample.Small(1)))
		trueCosts(t, k.more(&m, sums[counted]{}, sample.Mod(new(big.Int).Sub(sample.Power2(bit), big.NewInt(1))), sample.Small(1)))
	}
}
