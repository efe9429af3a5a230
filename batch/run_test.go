package batch_test

// How the goroutines run is not seen, and none is left.

import (
	"runtime"
	"slices"
	"sync"
	"testing"
	"time"

	"veil/api"
	"veil/batch"
	"veil/group"
	"veil/msm"
	"veil/sample"
)

// mixture: small items of all kinds.
func mixture(t testing.TB, count int) []batch.Item {
	t.Helper()
	good, bad, fault := few(t, 15)
	m := sample.Maker(150)
	items := slices.Repeat([]batch.Item{good.item}, count)
	for i := range items {
		switch m.Next() % 6 {
		case 0:
			items[i] = bad.item
		case 1:
			items[i] = fault.item
		}
	}
	return items
}

// callsOf: all five calls.
func callsOf(items []batch.Item) map[string]func() {
	return map[string]func(){
		"Weights": func() { batch.Weights(items...) },
		"Sum":     func() { batch.Sum(items...) },
		"All":     func() { batch.All(items...) },
		"Wrong":   func() { batch.Wrong(items...) },
		"Find":    func() { batch.Find(items...) },
	}
}

// settled: how many goroutines there are, in a while: one that has done all it does may still be on its way out.
func settled(before int) int {
	for range 1000 {
		if runtime.NumGoroutine() <= before {
			break
		}
		time.Sleep(time.Millisecond)
	}
	return runtime.NumGoroutine()
}

func TestP1502P1504P1505GoroutinesHaveEnded(t *testing.T) {
	good, bad, fault := few(t, 151)
	for _, items := range [][]batch.Item{
		nil, {good.item}, {bad.item}, {fault.item}, {good.item, bad.item, good.item}, {fault.item, good.item, fault.item},
		mixture(t, 20), slices.Repeat([]batch.Item{good.item}, 40), mixture(t, 70),
	} {
		for name, call := range callsOf(items) {
			before := runtime.NumGoroutine()
			call()
			if after := settled(before); after > before {
				t.Errorf("%s of %d items: %d goroutines behind it, %d ahead of it", name, len(items), after, before)
			}
		}
	}
}

// With one processor a goroutine that was waited for is gone when the call answers; one that was not has hardly begun.
func TestP1502P1504P1505GoroutinesAreWaitedFor(t *testing.T) {
	defer runtime.GOMAXPROCS(runtime.GOMAXPROCS(1))
	_, _, fault := few(t, 152)
	for name, call := range callsOf(slices.Repeat([]batch.Item{fault.item}, 33)) {
		const runs = 20
		left, before := 0, runtime.NumGoroutine()
		for range runs {
			call()
			if runtime.NumGoroutine() > before {
				left++
			}
			settled(before)
		}
		if left > runs/2 {
			t.Errorf("%s: in %d of %d runs goroutines were left", name, left, runs)
		}
	}
}

// answers: of all five calls, by the looks of what they answer.
type answers struct {
	weights     []api.Bytes32
	sum         group.Point
	cost        msm.Cost
	all         bool
	wrong, find []int
	e, f        api.Errno
}

func answersOf(items []batch.Item) answers {
	var a answers
	a.weights, a.e = batch.Weights(items...)
	a.sum, a.cost, a.f = batch.Sum(items...)
	a.all = batch.All(items...)
	a.wrong, a.find = batch.Wrong(items...), batch.Find(items...)
	return a
}

func (a answers) same(b answers) bool {
	return slices.Equal(a.weights, b.weights) && a.sum == b.sum && a.cost == b.cost && a.all == b.all &&
		slices.Equal(a.wrong, b.wrong) && slices.Equal(a.find, b.find) && a.e == b.e && a.f == b.f
}

// Many calls at one time, over the same items, don't meet; not even the looks of what they answer differ, nor the cost.
func TestP1502P1504P1505AtOneTime(t *testing.T) {
	good, bad, _ := few(t, 153)
	for _, items := range [][]batch.Item{{good.item, bad.item, good.item}, slices.Repeat([]batch.Item{good.item}, 18), mixture(t, 9), mixture(t, 21)} {
		want := answersOf(items)
		var all sync.WaitGroup
		for range 6 {
			all.Go(func() {
				for range 2 {
					if !answersOf(items).same(want) {
						t.Errorf("%d items: other answers beside others", len(items))
					}
				}
			})
		}
		all.Wait()
	}
}

// With one processor, with two, and with many the answers are the same.
func TestP1502P1504P1505HowTheyRunIsNotSeen(t *testing.T) {
	good, bad, _ := few(t, 154)
	for _, items := range [][]batch.Item{{good.item, bad.item, good.item, bad.item}, slices.Repeat([]batch.Item{good.item, bad.item}, 17), mixture(t, 20)} {
		want := answersOf(items)
		for _, processors := range []int{1, 2, 3, 16} {
			before := runtime.GOMAXPROCS(processors)
			got := answersOf(items)
			runtime.GOMAXPROCS(before)
			if !got.same(want) {
				t.Errorf("%d items: other answers with %d processors", len(items), processors)
			}
		}
	}
}
