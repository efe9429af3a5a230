package batch_test

// P1501: the weights.

import (
	"slices"
	"strings"
	"testing"

	"veil/api"
	"veil/batch"
	"veil/sample"
	"veil/wire"
)

// Of items of any bytes: they need not be such as can be judged.
func TestP1501Weights(t *testing.T) {
	m := sample.Maker(1501)
	const most = int(^uint(0) >> 1)
	params := []int{0, 1, 2, 3, 64, 255, 256, 1 << 16, 1 << 31, -1, -2, -256, most, -most - 1, most - 255}
	for count := range 65 {
		var items []batch.Item
		for range count {
			x := batch.Item{
				Label:  strings.Repeat(string(m.Bytes(int(m.Next()%3))), int(m.Next()%5)),
				Params: api.Params{Bits: params[m.Next()%uint64(len(params))], Count: params[m.Next()%uint64(len(params))]},
				Proof:  m.Bytes(int(m.Next() % 70)),
			}
			for range m.Next() % 5 {
				x.V = append(x.V, m.Bytes32())
			}
			items = append(items, x)
		}
		heldWeights(t, "any items", items)
	}
}

// By a program that has nothing of this one.
func TestP1501KnownWeights(t *testing.T) {
	const most = int64(^uint64(0) >> 1)
	var rising, full api.Bytes32
	proof := make([]byte, 200)
	for i := range proof {
		proof[i] = byte(i)
	}
	copy(rising[:], proof)
	for i := range full {
		full[i] = 255
	}
	items := []batch.Item{
		{Label: "a", Params: api.Params{Bits: 8, Count: 1}, V: []api.Bytes32{{7}}, Proof: []byte{1, 2, 3}},
		{Params: api.Params{Bits: -1, Count: int(-most - 1)}},
		{Label: "\x00\xff", Params: api.Params{Bits: int(most), Count: 16}, V: []api.Bytes32{rising, full}, Proof: proof},
	}
	got, e := batch.Weights(items...)
	errno(t, "Weights", e, api.OK)
	for i, want := range []string{
		"83dbb3a73c0ee6dab60309b94ce1b460f9961a42bd7862c32cdef61aeb119602",
		"22a56455952258130820659bdb1821df74150ebf6db8f2da485535b2eeabad0f",
		"d660eafa231fe41111870fd55ec938180c1a6e1b04a6ed8b9be790570ef7500d",
	} {
		if text := wire.Hex(got[i][:]); text != want {
			t.Errorf("weight %d: %s", i, text)
		}
	}
}

// Every weight hangs on all that every item says.
func TestP1501AllOfItCounts(t *testing.T) {
	base := func() []batch.Item {
		return []batch.Item{
			{Label: "first", Params: api.Params{Bits: 8, Count: 1}, V: []api.Bytes32{{1}}, Proof: []byte{1, 2, 3}},
			{Label: "second", Params: api.Params{Bits: 1, Count: 2}, V: []api.Bytes32{{2}, {3}}, Proof: []byte{4, 5}},
		}
	}
	seen := map[string]int{}
	same := func(items []batch.Item) {
		t.Helper()
		weights, e := batch.Weights(items...)
		errno(t, "Weights", e, api.OK)
		for i, w := range weights {
			if seen[string(w[:])]++; seen[string(w[:])] > 1 {
				t.Errorf("weight %d of %v was met before", i, items)
			}
		}
	}
	same(base())
	for at := range base() {
		for _, change := range []func(x *batch.Item){
			func(x *batch.Item) { x.Label += "x" },
			func(x *batch.Item) { x.Label = "" },
			func(x *batch.Item) { x.Params.Bits++ },
			func(x *batch.Item) { x.Params.Count++ },
			func(x *batch.Item) { x.Params.Bits, x.Params.Count = -x.Params.Bits, -x.Params.Count },
			func(x *batch.Item) { x.V[0][31] ^= 128 },
			func(x *batch.Item) { x.V = append(x.V, api.Bytes32{}) },
			func(x *batch.Item) { x.V = x.V[1:] },
			func(x *batch.Item) { x.Proof[1] ^= 1 },
			func(x *batch.Item) { x.Proof = append(x.Proof, 0) },
			func(x *batch.Item) { x.Label, x.Proof = x.Label+string(x.Proof), nil },
		} {
			items := base()
			change(&items[at])
			same(items)
		}
	}
	items := base()
	slices.Reverse(items)
	same(items)
	same(items[:1])
	same(items[1:])
	same(append(items, items...))
	same(append(base(), batch.Item{}))
}

func TestP1501Numbers(t *testing.T) {
	heldWeights(t, "none", nil)
	heldWeights(t, "none", []batch.Item{})
	for _, count := range []int{1, 2, 63, 64, 65, 66, 128, 1000} {
		heldWeights(t, "zero items", make([]batch.Item, count))
	}
	weights, e := batch.Weights(make([]batch.Item, 64)...)
	errno(t, "Weights", e, api.OK)
	slices.SortFunc(weights, func(a, b api.Bytes32) int { return strings.Compare(string(a[:]), string(b[:])) })
	if len(slices.Compact(weights)) != 64 {
		t.Error("two of the weights are the same")
	}
}
