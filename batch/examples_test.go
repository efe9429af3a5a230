package batch_test

// The examples of the chapter.

import (
	"slices"
	"testing"

	"veil/api"
	"veil/batch"
	"veil/group"
	"veil/msm"
)

func TestExample1(t *testing.T) {
	weights, e := batch.Weights()
	errno(t, "Weights", e, api.OK)
	sum, cost, e := batch.Sum()
	errno(t, "Sum", e, api.OK)
	if len(weights) != 0 || !sum.Same(group.Point{}) || cost != (msm.Cost{}) || !batch.All() || len(batch.Wrong()) != 0 || len(batch.Find()) != 0 {
		t.Error("no items")
	}
}

func TestExample2(t *testing.T) {
	good, _, _ := few(t, 1)
	if !batch.All(good.item) || !batch.All(good.item, good.item) {
		t.Error("one item, or the same item twice: All is false")
	}
	weights, e := batch.Weights(good.item, good.item)
	errno(t, "Weights", e, api.OK)
	if weights[0] == weights[1] {
		t.Error("the two weights are the same")
	}
}

func TestExample3(t *testing.T) {
	good, _, short := few(t, 2)
	items := []batch.Item{good.item, short.item, good.item}
	_, _, e := batch.Sum(items...)
	errno(t, "Sum", e, api.ErrLength)
	if batch.All(items...) || !slices.Equal(batch.Wrong(items...), []int{1}) || !slices.Equal(batch.Find(items...), []int{1}) {
		t.Errorf("All: %v, Wrong: %v, Find: %v", batch.All(items...), batch.Wrong(items...), batch.Find(items...))
	}
}

func TestExample4(t *testing.T) {
	good, bad, _ := few(t, 3)
	items := slices.Repeat([]batch.Item{good.item}, 65)
	items[32] = bad.item
	_, e := batch.Weights(items...)
	errno(t, "Weights", e, api.ErrArg)
	_, _, e = batch.Sum(items...)
	errno(t, "Sum", e, api.ErrArg)
	if batch.All(items...) || !slices.Equal(batch.Wrong(items...), []int{32}) || !slices.Equal(batch.Find(items...), []int{32}) {
		t.Errorf("All: %v, Wrong: %v, Find: %v", batch.All(items...), batch.Wrong(items...), batch.Find(items...))
	}
}

func TestExample5(t *testing.T) {
	good, _, _ := few(t, 4)
	none := copied(good.item)
	none.Params = api.Params{Bits: 3, Count: 1}
	_, _, e := batch.Sum(good.item, none)
	errno(t, "Sum", e, api.ErrParams)
	alone, _ := batch.Weights(good.item)
	both, e := batch.Weights(none, good.item)
	errno(t, "Weights", e, api.OK)
	if len(both) != 2 || both[0] == alone[0] || both[1] == alone[0] {
		t.Error("its place in Weights does not count")
	}
}
