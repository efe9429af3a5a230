package gadget_test

// P2008 to P2010: what pieces stand for, under every assignment that holds; when the own one does; shuffles.

import (
	"fmt"
	"math/big"
	"slices"
	"testing"

	"veil/api"
	"veil/circuit"
	"veil/gadget"
	"veil/sample"
	"veil/scalar"
)

// near: a small number, below 0 too.
func near(maker *sample.Maker) int64 { return int64(pick(maker, 9)) - 2 }

// nearLin: a sum of small factors whose number is likely to be small.
func (p *desks) nearLin(maker *sample.Maker, pool []circuit.Lin) circuit.Lin {
	x := pool[pick(maker, len(pool))]
	switch pick(maker, 4) {
	case 0:
		return x.Add(number(near(maker)))
	case 1:
		return x.Sub(pool[pick(maker, len(pool))])
	case 2:
		return number(near(maker))
	}
	return x
}

// nearCall: a piece that is about as likely to stand as not.
func (p *desks) nearCall(maker *sample.Maker, pool []circuit.Lin) call {
	lin := func() circuit.Lin { return p.nearLin(maker, pool) }
	x, y := lin(), lin()
	told, _ := p.known.Number(x)
	switch pick(maker, 14) {
	case 0:
		return multiplyCall(x, y)
	case 1:
		return productCall(x, y, lin())
	case 2:
		return powerCall(x, pick(maker, 6))
	case 3:
		return zeroCall(x.Sub(circuit.Const(told)).Add(number(int64(pick(maker, 4) / 3))))
	case 4:
		return equalCall(x, circuit.Const(told).Add(number(int64(pick(maker, 4)/3))))
	case 5:
		return notZeroCall(x)
	case 6:
		return bitCall(x)
	case 7, 8:
		return bitsCall(x, 1+pick(maker, 4))
	case 9:
		return chooseCall(number(int64(pick(maker, 3))), x, y)
	case 10:
		return memberCall(x, nums(near(maker), near(maker), near(maker))[pick(maker, 3):])
	case 11, 12:
		return lessCall(x, y, 1+pick(maker, 2))
	}
	z := lin()
	list := [][]circuit.Lin{{y, z, x}, {z, y, x}, {x, y, y}}[pick(maker, 3)]
	return shuffleCall([]circuit.Lin{x, y, z}, list, num(near(maker)))
}

// For systems of a few pieces, and any numbers on the wires from which all others follow: all assignments that hold are searched for.
// There is the one with the numbers that the chapter says, if every piece stands under them; else there is none at all.
func TestP2008AllAssignments(t *testing.T) {
	maker := sample.Maker(2008)
	stood := [2]int{}
	for range 3000 {
		values := nums(near(&maker), near(&maker))
		rights := bigs(nums(near(&maker), near(&maker)))
		p := newDesks(t, values...)
		pool := []circuit.Lin{of(value(0)), of(value(1)), of(left(0)), of(right(0)), of(right(1)), of(out(0)), of(out(1))}
		other := newModel(bigs(values), rights)
		for range 1 + pick(&maker, 3) {
			c := p.nearCall(&maker, pool)
			pool = append(pool, p.ok(t, c)...)
			c.built(other)
		}
		found := p.all(t, rights)
		want := p.stand(other.own)
		if want && (len(found) != 1 || !sameAssignment(found[0], other.told)) || !want && len(found) != 0 {
			t.Fatalf("the pieces stand: %v; what holds is %v", want, found)
		}
		for _, a := range found {
			if !p.stand(tableOf(a)) {
				t.Fatalf("%v holds, and a piece does not stand", a)
			}
		}
		stood[len(found)]++
	}
	if stood[0] < 500 || stood[1] < 500 {
		t.Errorf("%d systems without and %d with an assignment that holds are too few", stood[0], stood[1])
	}
}

// stood: pieces that stand, each on a desk of its own.
func stood(t testing.TB) []*desks {
	t.Helper()
	x, y, z := of(value(0)), of(value(1)), of(value(2))
	xs := []circuit.Lin{x, y, z}
	var list []*desks
	for _, c := range []call{
		multiplyCall(x, y), productCall(x, y, z), powerCall(y, 7), powerCall(x, 4), notZeroCall(x), bitCall(z), bitCall(nil), bitsCall(x, 2), bitsCall(y, 5), chooseCall(z, x, y), memberCall(x, nums(1, 2, 3)),
		memberCall(x, nums(3, 1)), lessCall(x, y, 3), lessCall(z, x, 2), shuffleCall(xs, []circuit.Lin{z, x, y}, num(7)), shuffleCall(xs, []circuit.Lin{y, x, z}, num(3)),
	} {
		p := small(t, 3, 5, 1)
		p.ok(t, c)
		p.holds(t, c.name, api.OK)
		list = append(list, p)
	}
	return list
}

// changed: does the own assignment hold with something added to number i of the left, the right, the output wires or the values? With again, the gate's output is multiplied anew.
func (p *desks) changed(which, i int, by scalar.Scalar, again bool) bool {
	a, _ := p.known.Assignment()
	list := [][]scalar.Scalar{a.L, a.R, a.O, a.V}[which]
	list[i] = list[i].Add(by)
	if again {
		a.O[i] = a.L[i].Mul(a.R[i])
	}
	return p.known.System().Holds(a) == api.OK
}

// Every wire of every gate that was added hangs on the values: whoever changes one, with its gate's output or without, has an assignment that does not hold.
func TestP2008Changed(t *testing.T) {
	for _, p := range stood(t) {
		what := p.pieces[0].call.name
		for _, by := range nums(1, -1, 2, 12345) {
			for i := p.model.values; i < p.model.gates; i++ {
				for which := range 3 {
					if p.changed(which, i, by, false) || which < 2 && p.changed(which, i, by, true) {
						t.Errorf("%s: it holds with another number at gate %d", what, i)
					}
				}
			}
			for j := range p.model.values {
				if p.changed(3, j, by, false) {
					t.Errorf("%s: it holds with another value %d", what, j)
				}
			}
		}
	}
}

// forged: what Holds tells where the gates that were added have these numbers.
func (p *desks) forged(t testing.TB, what string, gates [][3]int64, want api.Errno) {
	t.Helper()
	a, _ := p.known.Assignment()
	if len(a.L) != len(a.V)+len(gates) {
		t.Fatalf("%s: %d gates were added", what, len(a.L)-len(a.V))
	}
	for i, g := range gates {
		a.L[len(a.V)+i], a.R[len(a.V)+i], a.O[len(a.V)+i] = num(g[0]), num(g[1]), num(g[2])
	}
	errno(t, what, p.known.System().Holds(a), want)
}

// What somebody might try where a piece does not stand.
func TestP2008Forged(t *testing.T) {
	x, y := of(value(0)), of(value(1))
	begin := func(c call) *desks {
		p := small(t, 2, 5)
		p.ok(t, c)
		return p
	}
	p := begin(bitsCall(x, 2)) // 2 is 0 1
	p.forged(t, "the bits", [][3]int64{{0, -1, 0}, {1, 0, 0}}, api.OK)
	p.forged(t, "a bit that is 2", [][3]int64{{2, 1, 2}, {0, -1, 0}}, api.ErrRequire)
	p.forged(t, "a bit that is 2, and an output that is 0", [][3]int64{{2, 1, 0}, {0, -1, 0}}, api.ErrGate)
	p.forged(t, "a bit that is 2, and a right wire that is 0", [][3]int64{{2, 0, 0}, {0, -1, 0}}, api.ErrRequire)
	p.forged(t, "bits that do not make the number", [][3]int64{{1, 0, 0}, {1, 0, 0}}, api.ErrRequire)
	p.forged(t, "bits in the other order", [][3]int64{{1, 0, 0}, {0, -1, 0}}, api.ErrRequire)
	p = begin(bitsCall(y, 2)) // 5 is 1 0 1
	p.forged(t, "a number of more bits", [][3]int64{{1, 0, 0}, {2, 1, 2}}, api.ErrRequire)
	p.forged(t, "a number of more bits", [][3]int64{{1, 0, 0}, {2, 0, 0}}, api.ErrRequire)
	p.forged(t, "a number of more bits", [][3]int64{{1, 0, 0}, {2, 1, 0}}, api.ErrGate)
	p.forged(t, "a number of more bits", [][3]int64{{5, 4, 20}, {0, -1, 0}}, api.ErrRequire)
	p.none(t, "a number of more bits")
	p = begin(bitCall(x))
	p.forged(t, "2 is no bit", [][3]int64{{1, 0, 0}}, api.ErrRequire)
	p.forged(t, "2 is no bit", [][3]int64{{2, 0, 0}}, api.ErrRequire)
	p.forged(t, "2 is no bit", [][3]int64{{2, 1, 0}}, api.ErrGate)
	p = begin(memberCall(x, nums(1, 3)))
	p.forged(t, "2 is no member", [][3]int64{{1, 0, 0}}, api.ErrRequire)
	p.forged(t, "2 is no member", [][3]int64{{0, -1, 0}}, api.ErrRequire)
	p.forged(t, "2 is no member", [][3]int64{{1, -1, 0}}, api.ErrGate)
	p = begin(notZeroCall(x.Sub(number(2))))
	p.forged(t, "0 is 0", [][3]int64{{0, 0, 1}}, api.ErrGate)
	p.forged(t, "0 is 0", [][3]int64{{1, 1, 1}}, api.ErrRequire)
	p = begin(multiplyCall(x, y))
	p.forged(t, "another product", [][3]int64{{2, 5, 11}}, api.ErrGate)
	p.forged(t, "another product", [][3]int64{{2, 6, 12}}, api.ErrRequire)
	p.forged(t, "another product", [][3]int64{{3, 5, 15}}, api.ErrRequire)
	p.forged(t, "the factors in the other order", [][3]int64{{5, 2, 10}}, api.ErrRequire)
	p = begin(powerCall(x, 3))
	p.forged(t, "the power", [][3]int64{{2, 2, 4}, {4, 2, 8}}, api.OK)
	p.forged(t, "another power", [][3]int64{{2, 2, 4}, {4, 4, 16}}, api.ErrRequire)
	p.forged(t, "another power", [][3]int64{{2, 2, 4}, {4, 2, 9}}, api.ErrGate)
	p = begin(chooseCall(number(1), x, y))
	p.forged(t, "the other one", [][3]int64{{0, -3, 0}}, api.ErrRequire)
	p = begin(lessCall(y, x, 3)) // x - y - 1 = -4
	bit := func(n int64) [3]int64 { return [3]int64{n, n - 1, 0} }
	five, two := [][3]int64{bit(1), bit(0), bit(1)}, [][3]int64{bit(0), bit(1), bit(0)}
	for n := range int64(8) {
		p.forged(t, "5 lies below 2", slices.Concat(five, two, [][3]int64{bit(n & 1), bit(n >> 1 & 1), bit(n >> 2)}), api.ErrRequire)
		p.forged(t, "5 lies below 2", slices.Concat(two, five, [][3]int64{bit(n & 1), bit(n >> 1 & 1), bit(n >> 2)}), api.ErrRequire)
	}
	p.none(t, "5 lies below 2")
	p = begin(shuffleCall([]circuit.Lin{x, y}, []circuit.Lin{y, y}, num(1)))
	p.forged(t, "others", [][3]int64{{1, 4, 4}, {1, 4, 4}}, api.ErrRequire)
	p.forged(t, "others", [][3]int64{{1, 4, 4}, {4, 4, 4}}, api.ErrGate)
}

// Numbers of 252 bits: those from 2^252 on have none, though l itself lies above.
func TestP2008GreatNumbers(t *testing.T) {
	top := sample.Power2(252)
	rest := new(big.Int).Sub(sample.L(), top)
	for _, v := range []*big.Int{new(big.Int).Sub(top, big.NewInt(1)), new(big.Int).Sub(top, rest), new(big.Int), top, new(big.Int).Add(top, big.NewInt(5)), new(big.Int).Sub(sample.L(), big.NewInt(1))} {
		p := newDesks(t, sample.Scalar(v))
		p.ok(t, bitsCall(of(value(0)), 252))
		want := api.OK
		if v.Cmp(top) >= 0 {
			want = api.ErrRequire
		}
		p.holds(t, v.String(), want)
		a, _ := p.known.Assignment()
		other := new(big.Int).Sub(v, top) // as if there were a bit 252 that nobody sees
		for i := range 252 {
			b := int64(sample.Mod(other).Bit(i))
			a.L[i+1], a.R[i+1], a.O[i+1] = num(b), num(b-1), num(0)
		}
		errno(t, "the bits of another number", p.known.System().Holds(a), api.ErrRequire)
	}
	// Less, of numbers whose difference goes round.
	half := sample.Power2(251)
	for _, c := range [][2]*big.Int{{new(big.Int).Sub(half, big.NewInt(1)), new(big.Int)}, {new(big.Int), half}, {new(big.Int).Sub(sample.L(), half), new(big.Int).Sub(half, big.NewInt(1))}} {
		p := newDesks(t, sample.Scalar(c[0]), sample.Scalar(c[1]))
		p.ok(t, lessCall(of(value(0)), of(value(1)), 251))
		p.holds(t, fmt.Sprint(c), api.ErrRequire)
	}
}

// Behind each call on longer desks: the own assignment holds just if each piece stands. (run asks that behind every call.)
func TestP2009OwnAssignment(t *testing.T) {
	maker := sample.Maker(2009)
	stands := [2]int{}
	for range 300 {
		p := newDesks(t, nums(near(&maker), near(&maker), near(&maker))...)
		pool := []circuit.Lin{of(value(0)), of(value(1)), of(value(2)), of(right(1))}
		for range 6 {
			pool = append(pool, p.ok(t, p.nearCall(&maker, pool))...)
			a, _ := p.known.Assignment()
			if p.stand(tableOf(a)) {
				stands[1]++
			} else {
				stands[0]++
			}
		}
	}
	if stands[0] < 200 || stands[1] < 200 {
		t.Errorf("%d and %d", stands[0], stands[1])
	}
}

// A piece that does not stand is not mended by what comes behind it; those that stand do not break.
func TestP2009OneIsEnough(t *testing.T) {
	for _, p := range stood(t) {
		for _, c := range []call{zeroCall(number(1)), bitsCall(number(4), 2), notZeroCall(nil), memberCall(of(value(0)), nums(4)), lessCall(of(value(1)), of(value(0)), 3)} {
			first := small(t, 3, 5, 1)
			first.ok(t, c)
			first.ok(t, p.pieces[0].call)
			first.holds(t, c.name+" first", api.ErrRequire)
			then := small(t, 3, 5, 1)
			then.ok(t, p.pieces[0].call)
			then.ok(t, c)
			then.holds(t, c.name+" then", api.ErrRequire)
		}
		for _, q := range stood(t) {
			both := small(t, 3, 5, 1)
			both.ok(t, p.pieces[0].call)
			both.ok(t, q.pieces[0].call)
			both.holds(t, "both", api.OK)
		}
	}
}

// shuffled: does the piece stand at r? By the own assignment.
func shuffled(t testing.TB, xs, ys []int64, r scalar.Scalar) bool {
	t.Helper()
	d, e := gadget.Known(nums(append(slices.Clone(xs), ys...)...)...)
	errno(t, "Known", e, api.OK)
	var sums []circuit.Lin
	for j := range len(xs) + len(ys) {
		sums = append(sums, of(value(j)))
	}
	errno(t, "Shuffle", d.Shuffle(sums[:len(xs)], sums[len(xs):], r), api.OK)
	a, _ := d.Assignment()
	return d.System().Holds(a) == api.OK
}

// One list in another order: at every place, the elements among them.
func TestP2010AnotherOrder(t *testing.T) {
	maker := sample.Maker(2010)
	for range 60 {
		var xs []int64
		for range 1 + pick(&maker, 8) {
			xs = append(xs, near(&maker))
		}
		ys := slices.Clone(xs)
		for i := range ys {
			j := pick(&maker, i+1)
			ys[i], ys[j] = ys[j], ys[i]
		}
		places := append(nums(xs...), num(0), num(1), num(-1))
		for _, r := range append(places, someSet(&maker, 3)...) {
			if !shuffled(t, xs, ys, r) {
				t.Fatalf("%v and %v at %v", xs, ys, r)
			}
		}
	}
}

// All but one are the same: the lists seem one another in another order at just the places of the others, one fewer than there are elements.
func TestP2010AllButOne(t *testing.T) {
	maker := sample.Maker(10)
	for n := 1; n <= 8; n++ {
		var xs []int64
		for i := range n {
			xs = append(xs, int64(3*i+1))
		}
		ys := slices.Clone(xs)
		slices.Reverse(ys)
		ys[n-1] = 50 // in place of xs[0]
		count := 0
		for r := int64(-5); r < 60; r++ {
			stands := shuffled(t, xs, ys, num(r))
			if stands != slices.Contains(xs[1:], r) {
				t.Errorf("%v and %v at %d: %v", xs, ys, r, stands)
			}
			if stands {
				count++
			}
		}
		if count != n-1 {
			t.Errorf("%v and %v: at %d places", xs, ys, count)
		}
		for _, r := range someSet(&maker, 20) {
			if shuffled(t, xs, ys, r) && !slices.Contains(nums(xs[1:]...), r.Least()) {
				t.Errorf("%v and %v at %v", xs, ys, r)
			}
		}
	}
}

// rising: all lists of small numbers that rise.
func rising(length int, from, to int64) [][]int64 {
	if length == 0 {
		return [][]int64{nil}
	}
	var all [][]int64
	for n := from; n <= to; n++ {
		for _, rest := range rising(length-1, n, to) {
			all = append(all, append([]int64{n}, rest...))
		}
	}
	return all
}

// All pairs of short lists of small numbers: those that are not one another in another order seem so at fewer places than there are elements.
func TestP2010FewPlaces(t *testing.T) {
	for n, to := range []int64{0, 5, 4, 3} {
		most := 0
		lists := rising(n, 0, to)
		for i, xs := range lists {
			for j, ys := range lists {
				count := 0
				for r := int64(-4); r < 9; r++ {
					if shuffled(t, xs, ys, num(r)) {
						count++
					}
				}
				if i == j && count != 13 || i != j && count >= n {
					t.Errorf("%v and %v: at %d places", xs, ys, count)
				}
				if i != j {
					most = max(most, count)
				}
			}
		}
		if n > 0 && most != n-1 {
			t.Errorf("lists of %d: at most at %d places", n, most)
		}
	}
}
