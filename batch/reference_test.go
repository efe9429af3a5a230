package batch_test

// What must be answered, by the chapter's words and the calls of the layers below.

import (
	"encoding/binary"
	"slices"
	"testing"

	"veil/api"
	"veil/batch"
	"veil/gens"
	"veil/group"
	"veil/msm"
	"veil/ranges"
	"veil/scalar"
	"veil/transcript"
	"veil/wire"
)

// looked: an item, and all that ranges says of it.
type looked struct {
	item     batch.Item
	explain  api.Errno
	accepted bool
	sum      group.Point // of one that can be judged
}

// canBeJudged: is it an item without a fault?
func (x looked) canBeJudged() bool {
	return x.explain == api.OK || x.explain == api.ErrFirst || x.explain == api.ErrSecond
}

// lookAt: all that ranges says of an item.
func lookAt(t testing.TB, x batch.Item) looked {
	t.Helper()
	l := looked{item: x, explain: ranges.Explain(x.Params, x.Label, x.V, x.Proof), accepted: ranges.VerifyBytes(x.Params, x.Label, x.V, x.Proof)}
	if !l.canBeJudged() {
		return l
	}
	var v []group.Point
	for _, b := range x.V {
		p, e := group.Point{}.Decode(b)
		errno(t, "Decode", e, api.OK)
		v = append(v, p)
	}
	proof, e := wire.DecodeProof[group.Point](x.Proof)
	errno(t, "DecodeProof", e, api.OK)
	g, e := gens.Standard(x.Params.Size())
	errno(t, "Standard", e, api.OK)
	first, second, c, e := ranges.Sides(g, x.Params, v, proof, transcript.New(x.Label))
	errno(t, "Sides", e, api.OK)
	l.sum = first.Times(c).Add(second)
	return l
}

func itemsOf(list []looked) []batch.Item {
	var items []batch.Item
	for _, x := range list {
		items = append(items, x.item)
	}
	return items
}

// number64: le64 of a number that may be below 0.
func number64(n int) []byte { return binary.LittleEndian.AppendUint64(nil, uint64(int64(n))) }

// weightsFor: of a transcript that is asked for them.
func weightsFor(t testing.TB, items []batch.Item) []scalar.Scalar {
	t.Helper()
	o := transcript.New("veil batch")
	for _, x := range items {
		parts := [][]byte{[]byte(x.Label), number64(x.Params.Bits), number64(x.Params.Count), x.Proof}
		for j := range x.V {
			parts = append(parts, slices.Clone(x.V[j][:]))
		}
		o.Absorb("item", parts...)
	}
	var weights []scalar.Scalar
	for range items {
		k, e := o.Draw("weight")
		errno(t, "Draw", e, api.OK)
		weights = append(weights, k)
	}
	return weights
}

// wantSum: the sum of weights times the items' sums; how many terms it has at most; or an error.
func wantSum(t testing.TB, list []looked) (group.Point, int, api.Errno) {
	t.Helper()
	if len(list) > 64 {
		return group.Point{}, 0, api.ErrArg
	}
	var sum group.Point
	weights := weightsFor(t, itemsOf(list))
	size, terms := 0, 0
	for i, x := range list {
		if !x.canBeJudged() {
			return group.Point{}, 0, x.explain
		}
		sum = sum.Add(x.sum.Times(weights[i]))
		p := x.item.Params
		size, terms = max(size, p.Bits*p.Count), terms+p.Count+2*p.Rounds()+4
	}
	if len(list) > 0 {
		terms += 2*size + 3
	}
	return sum, terms, api.OK
}

func wantAll(t testing.TB, list []looked) bool {
	t.Helper()
	sum, _, e := wantSum(t, list)
	return e == api.OK && sum.Encode() == api.Bytes32{}
}

func wantWrong(list []looked) []int {
	var wrong []int
	for i, x := range list {
		if !x.accepted {
			wrong = append(wrong, i)
		}
	}
	return wrong
}

func wantFind(t testing.TB, list []looked) []int {
	t.Helper()
	n := len(list)
	switch {
	case n == 0, n == 1 && list[0].accepted:
		return nil
	case n == 1:
		return []int{0}
	case n <= 64 && wantAll(t, list):
		return nil
	}
	found := wantFind(t, list[:n/2])
	for _, i := range wantFind(t, list[n/2:]) {
		found = append(found, n/2+i)
	}
	return found
}

// held: all answers of the five calls are held against what must be answered.
func held(t testing.TB, what string, list ...looked) {
	t.Helper()
	items := itemsOf(list)
	heldWeights(t, what, items)
	heldSum(t, what, list)
	if got, want := batch.All(items...), wantAll(t, list); got != want {
		t.Errorf("%s: All: %v, want %v", what, got, want)
	}
	if got, want := batch.Wrong(items...), wantWrong(list); !slices.Equal(got, want) {
		t.Errorf("%s: Wrong: %v, want %v", what, got, want)
	}
	if got, want := batch.Find(items...), wantFind(t, list); !slices.Equal(got, want) {
		t.Errorf("%s: Find: %v, want %v", what, got, want)
	}
}

func heldWeights(t testing.TB, what string, items []batch.Item) {
	t.Helper()
	got, e := batch.Weights(items...)
	if len(items) > 64 {
		errno(t, what+": Weights", e, api.ErrArg)
		if len(got) != 0 {
			t.Errorf("%s: Weights: %d weights beside an error", what, len(got))
		}
		return
	}
	errno(t, what+": Weights", e, api.OK)
	want := weightsFor(t, items)
	if len(got) != len(want) {
		t.Fatalf("%s: %d weights, want %d", what, len(got), len(want))
	}
	for i, k := range want {
		if got[i] != k.Encode() {
			t.Errorf("%s: weight %d: %x, want %x", what, i, got[i], k.Encode())
		}
	}
}

func heldSum(t testing.TB, what string, list []looked) {
	t.Helper()
	sum, cost, e := batch.Sum(itemsOf(list)...)
	want, terms, wantE := wantSum(t, list)
	errno(t, what+": Sum", e, wantE)
	if !sum.Same(want) {
		t.Errorf("%s: Sum: %x, want %x", what, sum.Encode(), want.Encode())
	}
	if e != api.OK && sum != (group.Point{}) {
		t.Errorf("%s: Sum: an element beside an error", what)
	}
	if (e != api.OK || len(list) == 0) && cost != (msm.Cost{}) {
		t.Errorf("%s: Sum costs %v for nothing", what, cost)
	}
	if e == api.OK && len(list) > 0 && (cost.Adds+cost.Doubles == 0 || cost.Adds+cost.Doubles > msm.Bound(terms)) {
		t.Errorf("%s: Sum costs %v, and the bound of %d terms is %d", what, cost, terms, msm.Bound(terms))
	}
}

func errno(t testing.TB, what string, got, want api.Errno) {
	t.Helper()
	if got != want {
		t.Errorf("%s: the answer is %d, want %d", what, got, want)
	}
}
