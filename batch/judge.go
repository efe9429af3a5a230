package batch

import "sync"

// workers: so many items at most are judged at one time, however many there are: each takes memory while it is judged.
const workers = 16

// find: what was found of the item in a place.
type find[T any] struct {
	place int
	what  T
}

// judged: what judge finds of each item, in the items' order, in whatever order they end.
func judged[T any](items []Item, judge func(Item) T) []T {
	// There is room for all: so nobody waits to be heard, and the channel can be closed ahead of the first that is taken from it.
	finds := make(chan find[T], len(items))
	var inside sync.WaitGroup
	for first := range min(workers, len(items)) {
		inside.Go(func() {
			for place := first; place < len(items); place += workers {
				finds <- find[T]{place, judge(items[place])}
			}
		})
	}
	inside.Wait()
	close(finds)

	list := make([]T, len(items))
	for f := range finds {
		list[f.place] = f.what
	}
	return list
}
