package gens

// What is remembered cannot be emptied from outside, nor looked at.

import (
	"sync"
	"testing"

	"veil/api"
)

// forget: as if nothing had been asked for.
func forget() {
	kept.lock.Lock()
	defer kept.lock.Unlock()
	kept.points = nil
}

// The first calls of all come at one time, and ask for the same generators in unlike orders.
func TestP901FirstCallsAtOneTime(t *testing.T) {
	for range 5 {
		forget()
		var all sync.WaitGroup
		for worker := range 12 {
			all.Go(func() {
				for i := range 24 {
					g := name{api.GenLeft + (worker+i)%2, (i*5 + worker) % 24}
					if p, e := Point(g.kind, g.i); e != api.OK || p != g.point() {
						t.Errorf("Point(%d, %d) = %x, %d", g.kind, g.i, p.Encode(), e)
					}
				}
			})
		}
		all.Wait()
	}
}

// LANGUAGE, 8: what is kept is no more than the generators that there are.
func TestP901NoMoreIsKept(t *testing.T) {
	forget()
	for kind := -2; kind < 9; kind++ {
		for i := -2; i < 40; i++ {
			Point(kind, i)
		}
	}
	Standard(20)
	Standard(1025)
	Lines([]byte("x"), 30)
	Basis(30)
	if len(kept.points) != 3+2*40 {
		t.Errorf("%d generators are kept", len(kept.points))
	}
	for g, p := range kept.points {
		if !g.there() || p != g.point() {
			t.Errorf("kept under kind %d and number %d: %x", g.kind, g.i, p.Encode())
		}
	}
}

// Each is derived once: whatever stands in the memory is answered, and what stands there does not change.
func TestP901DerivedOnce(t *testing.T) {
	defer forget()
	forget()
	one, _ := Point(api.GenLeft, 3)
	kept.points[name{api.GenLeft, 3}] = one.Double()
	two, _ := Point(api.GenLeft, 3)
	s, _ := Standard(4)
	if two != one.Double() || s.G[3] != two {
		t.Error("a generator is derived again")
	}
}
