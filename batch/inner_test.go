package batch

// What cannot be seen from outside: in which order items end, how many are judged at one time, and what is answered if a weight cannot be drawn.

import (
	"slices"
	"strconv"
	"sync"
	"sync/atomic"
	"testing"

	"veil/api"
	"veil/scalar"
	"veil/transcript"
)

// numbered: items that are known by their labels.
func numbered(count int) []Item {
	items := make([]Item, count)
	for i := range items {
		items[i].Label = strconv.Itoa(i)
	}
	return items
}

func number(x Item) int {
	n, _ := strconv.Atoi(x.Label)
	return n
}

// The last one ends first, the first one last: each is found in its place.
func TestP1504OrderOfEndingIsNotSeen(t *testing.T) {
	items := numbered(workers)
	ended := make([]chan bool, workers+1)
	for i := range ended {
		ended[i] = make(chan bool)
	}
	close(ended[workers])
	got := judged(items, func(x Item) int {
		<-ended[number(x)+1]
		defer close(ended[number(x)])
		return 7 * number(x)
	})
	for i, n := range got {
		if n != 7*i {
			t.Errorf("in place %d stands %d", i, n)
		}
	}
}

// Each item is judged once, whatever their number; never more than so many at one time, and where there are so many, at one time indeed.
func TestP1504EachOnce(t *testing.T) {
	for count := range 4*workers + 2 {
		var now, most atomic.Int64
		var begun sync.WaitGroup
		begun.Add(min(count, workers))
		seen := make([]atomic.Int64, count)
		got := judged(numbered(count), func(x Item) string {
			most.Store(max(most.Load(), now.Add(1)))
			defer now.Add(-1)
			if number(x) < workers {
				begun.Done()
				begun.Wait()
			}
			seen[number(x)].Add(1)
			return x.Label
		})
		if len(got) != count || most.Load() > workers {
			t.Errorf("%d items: %d answers, %d at one time", count, len(got), most.Load())
		}
		for i := range got {
			if got[i] != strconv.Itoa(i) || seen[i].Load() != 1 {
				t.Errorf("%d items: item %d was judged %d times, and is %q", count, i, seen[i].Load(), got[i])
			}
		}
	}
}

// The first error of a Draw is the answer, and nothing else.
func TestP1501P1502WeightsThatCannotBeDrawn(t *testing.T) {
	items := zeros(3)
	k := []scalar.Scalar{scalar.Int(5), scalar.Int(6), scalar.Int(7)}
	for good := range 4 {
		for _, zero := range []bool{false, true} {
			list, want := slices.Clone(k[:good]), api.ErrShort
			if zero {
				list, want = append(list, scalar.Scalar{}), api.ErrZero
			}
			if good == 3 {
				want = api.OK
			}
			weights, e := weightsOf(items, transcript.Given(list...))
			terms, f := allTerms(items, transcript.Given(list...))
			if e != want || f != want {
				t.Errorf("%d weights: %d and %d, want %d", good, e, f, want)
			}
			if want == api.OK && !slices.Equal(weights, k) || want != api.OK && (len(weights) != 0 || len(terms) != 0) {
				t.Errorf("%d weights: %v, and %d terms", good, weights, len(terms))
			}
		}
	}
}

// zeros: items of nothing but zeros: they can be judged.
func zeros(count int) []Item {
	p := api.Params{Bits: 1, Count: 1}
	return slices.Repeat([]Item{{Params: p, V: make([]api.Bytes32, 1), Proof: make([]byte, p.Length())}}, count)
}

// Nothing is asked of the Oracle ahead of a fault; and what is asked is asked in order.
func TestP1502FaultsComeFirst(t *testing.T) {
	items := zeros(3)
	items[2].Proof = items[2].Proof[1:]
	o := transcript.Given()
	if _, e := allTerms(items, o); e != api.ErrLength || len(o.Heard()) != 0 {
		t.Errorf("a fault: %d, and the Oracle has heard %d calls", e, len(o.Heard()))
	}
	o = transcript.Given(scalar.Int(1), scalar.Int(2), scalar.Int(3))
	allTerms(zeros(3), o)
	for i, said := range o.Heard() {
		if said.Draw != (i >= 3) || said.Label != []string{"item", "weight"}[i/3] {
			t.Errorf("call %d: %v, %q", i, said.Draw, said.Label)
		}
	}
}

// Terms of one element are one term, and no generator stands in two.
func TestP1502EachElementOnce(t *testing.T) {
	for _, count := range []int{1, 2, 5} {
		terms, e := allTerms(zeros(count), transcript.New("any"))
		if e != api.OK {
			t.Fatalf("allTerms: %d", e)
		}
		for i, a := range terms {
			for _, b := range terms[:i] {
				if a.P.Same(b.P) {
					t.Errorf("%d items: two terms of one element", count)
				}
			}
		}
		// B, Blind, Q, G_0, H_0, and the neutral element, which all else is.
		if len(terms) != 6 {
			t.Errorf("%d items: %d terms", count, len(terms))
		}
	}
}

// asked: what is asked on the way by halves: from the first item to the one behind the last.
type asked struct{ from, to int }

// halves: what is found among so many items, some of which are wrong, if all tells the truth but of those that are blind to it; and what was asked.
func halves(count int, wrong []int, blind ...asked) ([]int, []asked) {
	var heard []asked
	found := byHalves(numbered(count), func(items ...Item) bool {
		a := asked{number(items[0]), number(items[0]) + len(items)}
		heard = append(heard, a)
		return slices.Contains(blind, a) || !slices.ContainsFunc(wrong, func(i int) bool { return i >= a.from && i < a.to })
	}, func(x Item) bool {
		heard = append(heard, asked{number(x), number(x) + 1})
		return !slices.Contains(wrong, number(x))
	})
	return found, heard
}

// Which items are asked for together: the first half is the smaller one; of more than there may be in a batch, all are not asked for; where all are accepted nothing more is asked.
func TestP1505Halves(t *testing.T) {
	for i, c := range []struct {
		count       int
		wrong       []int
		blind       []asked
		found       []int
		askedInTurn []asked
	}{
		{count: 0},
		{count: 1, askedInTurn: []asked{{0, 1}}},
		{count: 1, wrong: []int{0}, found: []int{0}, askedInTurn: []asked{{0, 1}}},
		{count: 2, askedInTurn: []asked{{0, 2}}},
		{count: 2, wrong: []int{1}, found: []int{1}, askedInTurn: []asked{{0, 2}, {0, 1}, {1, 2}}},
		{count: 3, wrong: []int{1}, found: []int{1}, askedInTurn: []asked{{0, 3}, {0, 1}, {1, 3}, {1, 2}, {2, 3}}},
		{count: 5, wrong: []int{0}, found: []int{0}, askedInTurn: []asked{{0, 5}, {0, 2}, {0, 1}, {1, 2}, {2, 5}}},
		{count: 5, wrong: []int{2, 4}, found: []int{2, 4}, askedInTurn: []asked{{0, 5}, {0, 2}, {2, 5}, {2, 3}, {3, 5}, {3, 4}, {4, 5}}},
		{count: 64, askedInTurn: []asked{{0, 64}}},
		{count: 65, askedInTurn: []asked{{0, 32}, {32, 65}}},
		{count: 130, askedInTurn: []asked{{0, 32}, {32, 65}, {65, 97}, {97, 130}}},
		// What All says of many is what counts.
		{count: 4, wrong: []int{1}, blind: []asked{{0, 4}}, askedInTurn: []asked{{0, 4}}},
		{count: 4, wrong: []int{1, 3}, blind: []asked{{0, 2}}, found: []int{3}, askedInTurn: []asked{{0, 4}, {0, 2}, {2, 4}, {2, 3}, {3, 4}}},
	} {
		found, heard := halves(c.count, c.wrong, c.blind...)
		if !slices.Equal(found, c.found) || !slices.Equal(heard, c.askedInTurn) {
			t.Errorf("case %d: found %v, asked %v", i, found, heard)
		}
	}
}
