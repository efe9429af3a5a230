package msm

import (
	"slices"
	"sync"
	"sync/atomic"
)

// hand: does a group's operations, and counts them.
type hand[P Group[P]] struct {
	cost Cost
}

func (h *hand[P]) add(a, b P) P {
	h.cost.Adds++
	return a.Add(b)
}

func (h *hand[P]) double(a P) P {
	h.cost.Doubles++
	return a.Double()
}

// pile: a sum under way. Its first element costs nothing.
type pile[P any] struct {
	sum  P
	some bool
}

// lay: one element more on a pile.
func (h *hand[P]) lay(on *pile[P], p P) {
	if on.some {
		p = h.add(on.sum, p)
	}
	*on = pile[P]{p, true}
}

// cheapest: the sum by the way that costs least, if it costs the most that it can.
func (h *hand[P]) cheapest(terms []Term[P]) P {
	n := len(terms)
	narrow, few := least(widestStraus, func(w int) int { return n*(1<<(w-1)+places(w)) + w*places(w) })
	wide, many := least(widestPippenger, func(w int) int { return places(w) * (n + 1<<(w-1) + w) })
	if few < many {
		return h.straus(narrow, terms)
	}
	return h.pippenger(wide, terms)
}

// least: the width from 1 on for which something costs least, and that cost.
func least(widest int, cost func(w int) int) (int, int) {
	best, low := 1, cost(1)
	for w := 2; w <= widest; w++ {
		if c := cost(w); c < low {
			best, low = w, c
		}
	}
	return best, low
}

// places: how many digits of w bits scalar.Digits tells. None of them is above 2^(w-1), nor below its negative.
func places(w int) int { return 253/w + 1 }

// straus: a pile for each place of the digits. Term by term, so that the multiples of one element alone stand in memory.
func (h *hand[P]) straus(w int, terms []Term[P]) P {
	piles := make([]pile[P], places(w))
	for _, term := range terms {
		digits, _ := term.K.Digits(w)
		multiples := h.multiples(term.P, greatest(digits))
		for i, digit := range digits {
			switch {
			case digit > 0:
				h.lay(&piles[i], multiples[digit-1])
			case digit < 0:
				h.lay(&piles[i], multiples[-digit-1].Neg())
			}
		}
	}
	return h.join(w, piles)
}

// greatest: the greatest of the digits, their signs aside.
func greatest(digits []int) int {
	top := 0
	for _, digit := range digits {
		top = max(top, digit, -digit)
	}
	return top
}

// multiples: p, 2 p, 3 p, .., so many.
func (h *hand[P]) multiples(p P, count int) []P {
	list := make([]P, count)
	for i := range list {
		switch {
		case i == 0:
			list[i] = p
		case i%2 == 1:
			list[i] = h.double(list[i/2])
		default:
			list[i] = h.add(list[i-1], p)
		}
	}
	return list
}

// join: the piles' sums, the one in place i times 2^(w i), added up.
func (h *hand[P]) join(w int, piles []pile[P]) P {
	// It begins with the neutral element, not with a pile: that may be an element that was handed in, and an answer shares no memory with it.
	var sum P
	some := false
	for _, next := range slices.Backward(piles) {
		if some {
			for range w {
				sum = h.double(sum)
			}
		}
		if next.some {
			sum, some = h.add(sum, next.sum), true
		}
	}
	return sum
}

// signed: a term by the digits of its scalar, and by what is added for a digit above 0 and for one below it.
type signed[P any] struct {
	digits      []int
	plus, minus P
}

// pippenger: a window for each place of the digits, all of them at one time.
func (h *hand[P]) pippenger(w int, terms []Term[P]) P {
	list := make([]signed[P], len(terms))
	for i, term := range terms {
		digits, _ := term.K.Digits(w)
		list[i] = signed[P]{digits, term.P, term.P.Neg()}
	}

	windows := make([]pile[P], places(w))
	var adds atomic.Int64
	var all sync.WaitGroup
	all.Add(len(windows))
	for place := range windows {
		go func() {
			defer all.Done()
			var own hand[P]
			windows[place] = own.window(place, 1<<(w-1), list)
			adds.Add(int64(own.cost.Adds))
		}()
	}
	all.Wait()
	h.cost.Adds += int(adds.Load())
	return h.join(w, windows)
}

// window: what the digits in one place come to, the greatest of them at most top: a bucket for each, their signs aside.
func (h *hand[P]) window(place, top int, list []signed[P]) pile[P] {
	buckets := make([]pile[P], top)
	for _, term := range list {
		switch digit := term.digits[place]; {
		case digit > 0:
			h.lay(&buckets[digit-1], term.plus)
		case digit < 0:
			h.lay(&buckets[-digit-1], term.minus)
		}
	}
	return h.weigh(buckets)
}

// weigh: the first bucket once, the second twice, and so on: from the last one on, all up to each are added once more.
func (h *hand[P]) weigh(buckets []pile[P]) pile[P] {
	var upper, sum pile[P]
	for _, bucket := range slices.Backward(buckets) {
		if bucket.some {
			h.lay(&upper, bucket.sum)
		}
		if upper.some {
			h.lay(&sum, upper.sum)
		}
	}
	return sum
}
