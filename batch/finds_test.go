package batch_test

// P1504, P1505 and P1506: which items are wrong.

import (
	"fmt"
	"slices"
	"testing"

	"veil/api"
	"veil/batch"
	"veil/sample"
)

// few: an item that is accepted, one that is refused, and one that can't be judged, all of them small.
func few(t testing.TB, seed uint64) (good, bad, fault looked) {
	t.Helper()
	m := sample.Maker(seed)
	good = lookAt(t, proven(t, &m, "good", api.Params{Bits: 1, Count: 1}))
	bad = lookAt(t, turned(good.item, partMu))
	short := copied(good.item)
	short.Proof = short.Proof[1:]
	fault = lookAt(t, short)
	errno(t, "good", good.explain, api.OK)
	errno(t, "bad", bad.explain, api.ErrSecond)
	errno(t, "fault", fault.explain, api.ErrLength)
	return good, bad, fault
}

// All ways in which up to five items may be right, refused, or not to be judged.
func TestP1504P1505AllOfFew(t *testing.T) {
	t.Parallel()
	good, bad, fault := few(t, 1504)
	kinds := []looked{good, bad, fault}
	for count, ways := 1, 3; count <= 4; count, ways = count+1, 3*ways {
		for way := range ways {
			var list []looked
			for rest := way; len(list) < count; rest /= 3 {
				list = append(list, kinds[rest%3])
			}
			held(t, fmt.Sprint("way ", way, " of ", count), list...)
		}
	}
}

// One or two wrong ones among any number of items, at the places around the middle, too.
func TestP1504P1505AmongMany(t *testing.T) {
	t.Parallel()
	good, bad, fault := few(t, 1505)
	for _, count := range []int{5, 7, 16, 33} {
		for _, place := range []int{0, 1, count/2 - 1, count / 2, count - 1} {
			for _, wrong := range []looked{bad, fault} {
				list := slices.Repeat([]looked{good}, count)
				list[place] = wrong
				held(t, fmt.Sprint(place, " of ", count), list...)
				list[count-1-place] = bad
				held(t, fmt.Sprint(place, " of ", count, ", and one more"), list...)
			}
		}
	}
}

// More than there may be in a batch: by both ways each is found.
func TestP1504P1505AnyNumber(t *testing.T) {
	t.Parallel()
	good, bad, fault := few(t, 15050)
	for _, count := range []int{64, 65, 66, 127, 128, 129, 200} {
		list := slices.Repeat([]looked{good}, count)
		held(t, fmt.Sprint(count, " right ones"), list...)
		list[0], list[31], list[32], list[count-2], list[count-1] = bad, fault, bad, bad, fault
		want := []int{0, 31, 32, count - 2, count - 1}
		if got := batch.Wrong(itemsOf(list)...); !slices.Equal(got, want) {
			t.Errorf("Wrong of %d: %v", count, got)
		}
		if got := batch.Find(itemsOf(list)...); !slices.Equal(got, want) {
			t.Errorf("Find of %d: %v", count, got)
		}
	}
	all := slices.Repeat([]batch.Item{fault.item}, 300)
	for _, got := range [][]int{batch.Wrong(all...), batch.Find(all...)} {
		if len(got) != 300 || !slices.IsSorted(got) || got[299] != 299 {
			t.Errorf("of 300 items that can't be judged %d are found", len(got))
		}
	}
	zeros := make([]batch.Item, 5000)
	if got := batch.Wrong(zeros...); len(got) != 5000 {
		t.Errorf("of 5000 zero items %d are found", len(got))
	}
}

// What the calls say fits together: what Find has Wrong has; of right ones neither has any, and All is true.
func TestP1506FitTogether(t *testing.T) {
	t.Parallel()
	m := sample.Maker(1506)
	good, bad, fault := few(t, 15060)
	for round := range 40 {
		var list []looked
		allRight := true
		for range m.Next() % 12 {
			x := good
			if m.Next()%8 == 0 {
				x = []looked{bad, fault}[m.Next()%2]
				allRight = false
			}
			list = append(list, x)
		}
		items := itemsOf(list)
		wrong, found := batch.Wrong(items...), batch.Find(items...)
		for _, i := range found {
			if !slices.Contains(wrong, i) {
				t.Errorf("round %d: Find has %d, and Wrong has not", round, i)
			}
		}
		if allRight != (len(wrong) == 0) || allRight != (len(found) == 0) || allRight != batch.All(items...) {
			t.Errorf("round %d: Wrong: %v, Find: %v, All: %v", round, wrong, found, batch.All(items...))
		}
	}
}

func TestP1504P1505NoItems(t *testing.T) {
	for _, none := range [][]batch.Item{nil, {}} {
		if len(batch.Wrong(none...)) != 0 || len(batch.Find(none...)) != 0 {
			t.Error("of no items some are wrong")
		}
	}
}
