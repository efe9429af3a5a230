package gens

import (
	"sync"

	"veil/api"
	"veil/group"
	"veil/hash"
)

// name: which generator one is.
type name struct{ kind, i int }

// there: is there a generator of that name?
func (g name) there() bool {
	switch g.kind {
	case api.GenBase, api.GenBlind, api.GenInner:
		return g.i == 0
	case api.GenLeft, api.GenRight:
		return g.i >= 0 && g.i < api.MaxSize
	}
	return false
}

// seed: the byte of the kind and the 8 bytes of the number.
func (g name) seed() []byte {
	b := []byte{byte(g.kind)}
	for place := range 8 {
		b = append(b, byte(g.i>>(8*place)))
	}
	return b
}

// point: the standard generator of that name.
func (g name) point() group.Point {
	if g.kind == api.GenBase {
		return group.Base()
	}
	return group.Map(hash.Sum([]byte("veil generator"), g.seed()))
}

// memory: the standard generators that were asked for already, so that each is derived once.
type memory struct {
	lock   sync.Mutex
	points map[name]group.Point
}

var kept = memory{}

// standard: the standard generator of a name, as it was derived when it was first asked for.
func standard(g name) group.Point {
	kept.lock.Lock()
	defer kept.lock.Unlock()
	if kept.points == nil {
		kept.points = map[name]group.Point{}
	}
	p, ok := kept.points[g]
	if !ok {
		p = g.point()
		kept.points[g] = p
	}
	return p
}

// Point: a generator of the standard set: its kind (api.GenBase ..) and, of G and H, its number.
func Point(kind, i int) (group.Point, api.Errno) {
	g := name{kind, i}
	if !g.there() {
		return group.Point{}, api.ErrArg
	}
	return standard(g), api.OK
}

// Standard: the standard set with n of G and of H.
func Standard(n int) (Set[group.Point], api.Errno) {
	return setOf(n, api.MaxSize, func(kind, i int) group.Point { return standard(name{kind, i}) })
}
