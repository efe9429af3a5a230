package batch_test

// P1502, P1503 and P1507: one sum, and what it says.

import (
	"fmt"
	"math/big"
	"slices"
	"testing"

	"veil/api"
	"veil/batch"
	"veil/gens"
	"veil/group"
	"veil/msm"
	"veil/ranges"
	"veil/sample"
	"veil/transcript"
	"veil/wire"
)

// Items of all kinds in any order: right ones, refused ones, and what nobody made.
func TestP1502P1503P1507AnyItems(t *testing.T) {
	t.Parallel()
	m := sample.Maker(1502)
	all := slices.Concat(right(t, &m), refused(t, &m), found(t, &m))
	for _, x := range all {
		held(t, "one item", x)
		held(t, "the same item twice", x, x)
	}
	for round := range 24 {
		held(t, fmt.Sprint("round ", round), pick(&m, all, 2+round%9)...)
	}
}

// Right items alone are accepted, in any order, as many as there may be.
func TestP1502P1503P1506RightItems(t *testing.T) {
	t.Parallel()
	m := sample.Maker(15020)
	all := right(t, &m)
	for _, count := range []int{2, 3, 5, 8, 13, 31, 64} {
		list := pick(&m, all, count)
		held(t, fmt.Sprint(count, " right items"), list...)
		if items := itemsOf(list); !batch.All(items...) || len(batch.Wrong(items...)) != 0 || len(batch.Find(items...)) != 0 {
			t.Errorf("%d right items are called wrong", count)
		}
	}
}

// Just one item whose sum is not neutral, at any place: All is false.
func TestP1503P1507JustOne(t *testing.T) {
	t.Parallel()
	m := sample.Maker(15030)
	all, bad := right(t, &m), refused(t, &m)
	for place := range 7 {
		list := pick(&m, all, 7)
		list[place] = bad[place%len(bad)]
		held(t, fmt.Sprint("one refused at ", place), list...)
		if batch.All(itemsOf(list)...) {
			t.Errorf("All is true, and item %d is refused", place)
		}
	}
	for _, x := range bad {
		if batch.All(x.item) || batch.All(all[0].item, x.item) || batch.All(x.item, all[0].item) {
			t.Errorf("All is true of an item of which Explain answers %d", x.explain)
		}
	}
}

// Sums that are multiples of one generator: of the same multiple, of unlike ones, and of one and its negative, which would cancel, were it not for the weights.
func TestP1507SumsAlike(t *testing.T) {
	t.Parallel()
	m := sample.Maker(15070)
	p := api.Params{Bits: 1, Count: 1}
	one := lookAt(t, proven(t, &m, "one", p))
	less, more := wrongEnd(one.item, -5), wrongEnd(one.item, 5)
	for _, list := range [][]batch.Item{{less, less}, {less, more}, {more, one.item, less}, {more, less, less, more}} {
		var all []looked
		for _, x := range list {
			all = append(all, lookAt(t, x))
		}
		held(t, "sums alike", all...)
		if batch.All(list...) {
			t.Error("All is true of items that are refused")
		}
	}
}

// wrongEnd: a proof's last scalar, so much more: E2 is so much less times H_0, less that much times a w Q.
func wrongEnd(x batch.Item, by int64) batch.Item {
	x = copied(x)
	at := len(x.Proof) - 32
	now := new(big.Int).Add(sample.Number(x.Proof[at:]), big.NewInt(by))
	b := sample.Scalar(now).Encode()
	copy(x.Proof[at:], b[:])
	return x
}

// The fault of the first item that can't be judged, wherever it stands, and whatever comes behind it.
func TestP1502Faults(t *testing.T) {
	t.Parallel()
	m := sample.Maker(15021)
	good, bad := right(t, &m)[0], refused(t, &m)[0]
	all := allFaulty(t)
	for i, f := range all {
		x, next := lookAt(t, f.item), lookAt(t, all[(i+7)%len(all)].item)
		errno(t, f.name, x.explain, f.fault)
		for _, list := range [][]looked{{x}, {x, good}, {good, x}, {bad, x, next}, {good, bad, next, x}, {x, next, x}} {
			held(t, f.name, list...)
			if batch.All(itemsOf(list)...) {
				t.Errorf("%s: All is true", f.name)
			}
		}
	}
}

// Of all pairs of unlike faults the first one's is told.
func TestP1502FirstFault(t *testing.T) {
	m := sample.Maker(15022)
	good := proven(t, &m, "good", api.Params{Bits: 1, Count: 1})
	firsts := map[api.Errno]batch.Item{}
	for _, f := range allFaulty(t) {
		firsts[f.fault] = f.item
	}
	if len(firsts) != 4 {
		t.Fatalf("%d kinds of faults", len(firsts))
	}
	for e, x := range firsts {
		for _, y := range firsts {
			for _, items := range [][]batch.Item{{x, y}, {good, x, y}, {x, good, y, good}, append(slices.Repeat([]batch.Item{good}, 60), x, good, y, y)} {
				sum, cost, got := batch.Sum(items...)
				errno(t, "Sum", got, e)
				if sum != (group.Point{}) || cost != (msm.Cost{}) {
					t.Error("Sum answers more beside an error")
				}
			}
		}
	}
}

// 64 items are taken, 65 are not, whatever they are: ahead of every fault.
func TestP1502P1503TooMany(t *testing.T) {
	t.Parallel()
	m := sample.Maker(15023)
	good := lookAt(t, proven(t, &m, "good", api.Params{Bits: 1, Count: 1}))
	bad := lookAt(t, turned(good.item, partMu))
	fault := lookAt(t, allFaulty(t)[0].item)
	held(t, "64 items", slices.Repeat([]looked{good}, 64)...)
	held(t, "64 items", append(slices.Repeat([]looked{good}, 63), bad)...)
	held(t, "65 items", slices.Repeat([]looked{good}, 65)...)
	held(t, "65 items", append(slices.Repeat([]looked{good}, 64), bad)...)
	held(t, "65 items, with faults", append([]looked{fault}, slices.Repeat([]looked{good}, 64)...)...)
	held(t, "67 items, with faults", append(slices.Repeat([]looked{good}, 65), fault, fault)...)
	held(t, "130 items", append(slices.Repeat([]looked{good}, 129), bad)...)
	if batch.All(slices.Repeat([]batch.Item{good.item}, 65)...) {
		t.Error("All is true of 65 items")
	}
	for _, count := range []int{65, 66, 1000} {
		sum, cost, e := batch.Sum(make([]batch.Item, count)...)
		errno(t, "Sum", e, api.ErrArg)
		if sum != (group.Point{}) || cost != (msm.Cost{}) {
			t.Error("Sum answers more beside an error")
		}
	}
}

func TestP1502P1503NoItems(t *testing.T) {
	held(t, "no items")
	for _, none := range [][]batch.Item{nil, {}} {
		sum, cost, e := batch.Sum(none...)
		errno(t, "Sum", e, api.OK)
		if !sum.Same(group.Point{}) || cost != (msm.Cost{}) || !batch.All(none...) {
			t.Error("no items: not neutral, or not for nothing")
		}
	}
}

// made: an item of unlike elements, none of which is a generator: so no two terms of its sum are of one element.
func made(m *sample.Maker, p api.Params) batch.Item {
	x := batch.Item{Label: string(m.Bytes(3)), Params: p}
	element := func() api.Bytes32 { return group.Base().Times(sample.Scalar(sample.Number(m.Bytes(32)))).Encode() }
	for range p.Count {
		x.V = append(x.V, element())
	}
	for part := range p.Length() / 32 {
		b := element()
		if at := 32 * part; at >= partTauX && at < partL || at >= p.Length()-64 {
			b = sample.Scalar(sample.Number(m.Bytes(32))).Encode()
		}
		x.Proof = append(x.Proof, b[:]...)
	}
	return x
}

// termsOf: an item's own sum, as ranges tells it.
func termsOf(t testing.TB, x batch.Item) []msm.Term[group.Point] {
	t.Helper()
	var v []group.Point
	for _, b := range x.V {
		p, e := group.Point{}.Decode(b)
		errno(t, "Decode", e, api.OK)
		v = append(v, p)
	}
	proof, e := wire.DecodeProof[group.Point](x.Proof)
	errno(t, "DecodeProof", e, api.OK)
	g, _ := gens.Standard(x.Params.Size())
	terms, e := ranges.Terms(g, x.Params, v, proof, transcript.New(x.Label))
	errno(t, "Terms", e, api.OK)
	return terms
}

// The cost of many items: each generator stands in one term alone, of the greatest size, whichever item has it.
func TestP1502Cost(t *testing.T) {
	t.Parallel()
	m := sample.Maker(15024)
	for _, c := range []struct {
		count int
		of    []api.Params
		terms int
	}{
		{1, []api.Params{{Bits: 1, Count: 1}}, 5 + 5},
		{1, []api.Params{{Bits: 64, Count: 1}}, 131 + 17},
		{64, []api.Params{{Bits: 1, Count: 1}}, 5 + 64*5},
		{64, []api.Params{{Bits: 8, Count: 2}}, 35 + 64*14},
		{20, []api.Params{{Bits: 32, Count: 1}, {Bits: 1, Count: 1}, {Bits: 2, Count: 16}, {Bits: 1, Count: 2}}, 67 + 5*(15+5+30+8)},
		{5, []api.Params{{Bits: 1, Count: 1}, {Bits: 2, Count: 1}, {Bits: 4, Count: 1}, {Bits: 8, Count: 1}, {Bits: 64, Count: 1}}, 131 + 5 + 7 + 9 + 11 + 17},
		{5, []api.Params{{Bits: 64, Count: 1}, {Bits: 8, Count: 1}, {Bits: 4, Count: 1}, {Bits: 2, Count: 1}, {Bits: 1, Count: 1}}, 131 + 5 + 7 + 9 + 11 + 17},
	} {
		var items []batch.Item
		for i := range c.count {
			items = append(items, made(&m, c.of[i%len(c.of)]))
		}
		weighed(t, items, c.terms)
	}
}

// The greatest batch that there is.
func TestP1502GreatestBatch(t *testing.T) {
	t.Parallel()
	m := sample.Maker(15025)
	var items []batch.Item
	for range 64 {
		items = append(items, made(&m, api.Params{Bits: 64, Count: 16}))
	}
	weighed(t, items, 4611)
}

// weighed: the sum of items that can be judged, held against all their terms by ranges.Terms; its cost is that of so many terms at most.
func weighed(t testing.TB, items []batch.Item, terms int) {
	t.Helper()
	sum, cost, e := batch.Sum(items...)
	errno(t, "Sum", e, api.OK)
	if total := cost.Adds + cost.Doubles; total == 0 || total > msm.Bound(terms) {
		t.Errorf("%d items: the cost is %v, and the bound of %d terms %d", len(items), cost, terms, msm.Bound(terms))
	}
	var all []msm.Term[group.Point]
	for i, k := range weightsFor(t, items) {
		for _, term := range termsOf(t, items[i]) {
			all = append(all, msm.Term[group.Point]{K: term.K.Mul(k), P: term.P})
		}
	}
	want, _ := msm.Sum(all...)
	if !sum.Same(want) {
		t.Errorf("%d items: the sum is another one", len(items))
	}
}
