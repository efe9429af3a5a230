package batch_test

// P1, P3 and P4: what is handed in is as it was and is not kept; what is handed out is new.

import (
	"bytes"
	"slices"
	"testing"

	"veil/api"
	"veil/batch"
	"veil/sample"
)

// roomy: items with room behind all that they hold, and one more item behind the list.
func roomy(t testing.TB) []batch.Item {
	t.Helper()
	good, bad, fault := few(t, 155)
	m := sample.Maker(1550)
	wide := proven(t, &m, "wide", api.Params{Bits: 2, Count: 2})
	items := []batch.Item{good.item, wide, bad.item, fault.item, bad.item, wide}
	for i, x := range items {
		x = copied(x)
		x.V = append(x.V, api.Bytes32{1, 2, 3}, api.Bytes32{4})[:len(x.V)]
		x.Proof = append(x.Proof, 5, 6, 7)[:len(x.Proof)]
		items[i] = x
	}
	return items[:5]
}

// wholeOf: a list with the room behind it.
func wholeOf[T any](list []T) []T { return list[:cap(list)] }

// remembered: all that items hold, and what stands behind it.
func remembered(items []batch.Item) []batch.Item {
	var all []batch.Item
	for _, x := range wholeOf(items) {
		x.V, x.Proof = slices.Clone(wholeOf(x.V)), bytes.Clone(wholeOf(x.Proof))
		all = append(all, x)
	}
	return all
}

func sameItems(a, b []batch.Item) bool {
	return slices.EqualFunc(a, b, func(x, y batch.Item) bool {
		return x.Label == y.Label && x.Params == y.Params && slices.Equal(x.V, y.V) && bytes.Equal(x.Proof, y.Proof)
	})
}

func TestP3HandedInIsLeft(t *testing.T) {
	items := roomy(t)
	before := remembered(items)
	for _, part := range [][]batch.Item{items, items[:3], items[:1], items[2:3], items[:0]} {
		for name, call := range callsOf(part) {
			call()
			if !sameItems(remembered(items), before) {
				t.Fatalf("%s has changed what was handed in", name)
			}
		}
	}
}

// Items whose bytes are written over where they lie are judged anew.
func TestP1P3NothingIsKept(t *testing.T) {
	good, _, _ := few(t, 156)
	items := []batch.Item{copied(good.item), copied(good.item), copied(good.item)}
	is := func(what string, want ...int) {
		t.Helper()
		list := make([]looked, len(items))
		for i, x := range items {
			list[i] = lookAt(t, x)
		}
		held(t, what, list...)
		if got := batch.Wrong(items...); !slices.Equal(got, want) {
			t.Errorf("%s: Wrong: %v, want %v", what, got, want)
		}
		if got := batch.Find(items...); !slices.Equal(got, want) {
			t.Errorf("%s: Find: %v, want %v", what, got, want)
		}
		if batch.All(items...) != (len(want) == 0) {
			t.Errorf("%s: All: %v", what, batch.All(items...))
		}
	}
	is("at first")
	items[1].Proof[partMu] ^= 1
	is("mu turned", 1)
	items[2].V[0][31] ^= 128
	is("a commitment that is none", 1, 2)
	items[1].Proof[partMu] ^= 1
	items[2].V[0][31] ^= 128
	is("as at first")
	items[0].Label = "other"
	is("another label", 0)
	items[0].Label, items[0].Params.Bits = "good", 2
	is("other Params", 0)
	items[0].Params.Bits = 1
	is("as at first once more")
	items[0], items[2].Proof = batch.Item{}, items[2].Proof[:0]
	is("nothing", 0, 2)
}

// Weights hang on the items of this call alone.
func TestP1P3WeightsAreNotKept(t *testing.T) {
	items := roomy(t)
	first, _ := batch.Weights(items...)
	items[0].Proof[3] ^= 1
	second, _ := batch.Weights(items...)
	items[0].Proof[3] ^= 1
	third, _ := batch.Weights(items...)
	if !slices.Equal(first, third) || slices.Equal(first, second) {
		t.Error("weights of other items")
	}
}

// Whoever writes into what was answered, or appends to it, changes nothing else.
func TestP3HandedOutIsNew(t *testing.T) {
	items := roomy(t)
	before := remembered(items)
	want := answersOf(items)
	for range 2 {
		got := answersOf(items)
		other := answersOf(items)
		for i := range wholeOf(got.weights) {
			wholeOf(got.weights)[i] = api.Bytes32{9}
		}
		for _, list := range [][]int{got.wrong, got.find} {
			for i := range wholeOf(list) {
				wholeOf(list)[i] = -7
			}
		}
		if !other.same(want) || !answersOf(items).same(want) || !sameItems(remembered(items), before) {
			t.Error("what was written into an answer is seen elsewhere")
		}
	}
}

// nil and empty lists are the same.
func TestP4NilAndEmpty(t *testing.T) {
	p := api.Params{Bits: 1, Count: 1}
	bare := answersOf([]batch.Item{{Params: p}, {}})
	empty := answersOf([]batch.Item{{Params: p, V: []api.Bytes32{}, Proof: []byte{}}, {V: []api.Bytes32{}, Proof: []byte{}}})
	if !bare.same(empty) || bare.f != api.ErrLength {
		t.Errorf("nil and empty lists are told apart: %v, %v", bare, empty)
	}
	if !answersOf(nil).same(answersOf([]batch.Item{})) {
		t.Error("no items and a list without items are told apart")
	}
}

// Beside an error there is nothing.
func TestP2NothingBesideAnError(t *testing.T) {
	_, _, fault := few(t, 157)
	many := answersOf(slices.Repeat([]batch.Item{fault.item}, 65))
	if !many.same(answers{e: api.ErrArg, f: api.ErrArg, wrong: many.wrong, find: many.find}) || many.weights != nil {
		t.Errorf("65 items: %v", many)
	}
	one := answersOf([]batch.Item{fault.item})
	if !one.same(answers{weights: one.weights, f: api.ErrLength, wrong: []int{0}, find: []int{0}}) || len(one.weights) != 1 {
		t.Errorf("an item that can't be judged: %v", one)
	}
}

// Whatever the bytes are, every call ends.
func TestP1AnyBytes(t *testing.T) {
	m := sample.Maker(158)
	for range 60 {
		var items []batch.Item
		for range m.Next() % 5 {
			p := api.Params{Bits: 1 << (m.Next() % 4), Count: 1 << (m.Next() % 3)}
			x := batch.Item{Label: string(m.Bytes(int(m.Next() % 9))), Params: p, Proof: m.Bytes(p.Length() + int(m.Next()%2)*int(m.Next()%3))}
			for range p.Count {
				b := m.Bytes32()
				b[0], b[31] = b[0]&^1, b[31]&15
				x.V = append(x.V, b)
			}
			if m.Next()%8 == 0 {
				x.Params = api.Params{Bits: int(m.Next()), Count: int(m.Next())}
			}
			items = append(items, x)
		}
		var list []looked
		for _, x := range items {
			list = append(list, lookAt(t, x))
		}
		held(t, "any bytes", list...)
	}
}
