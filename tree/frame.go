package tree

import (
	"veil/algebra"
	"veil/api"
	"veil/gens"
	"veil/msm"
	"veil/scalar"
)

// frame: g and h of a statement, and the frames to which challenges have folded it. Conversations behind one y may well be asked the same challenges: it is folded by each of them once.
type frame[P msm.Group[P]] struct {
	g, h   []P
	folded map[scalar.Scalar]*frame[P]
}

// frameBehind: that of all conversations behind a y: G, and y^-i H_i.
func frameBehind[P msm.Group[P]](g gens.Set[P], p api.Params, y scalar.Scalar) *frame[P] {
	powers, _ := algebra.Powers(y.Invert(), p.Size())
	h := make([]P, p.Size())
	for i, k := range powers {
		h[i] = g.H[i].Times(k)
	}
	return &frame[P]{g: g.G[:p.Size()], h: h}
}

// by: folded by a challenge; its inverse is handed in, as there is one for many.
func (f *frame[P]) by(up, down scalar.Scalar) *frame[P] {
	if f.folded == nil {
		f.folded = map[scalar.Scalar]*frame[P]{}
	}
	next, ok := f.folded[up.Least()]
	if !ok {
		next = &frame[P]{g: blend(down, up, f.g), h: blend(up, down, f.h)}
		f.folded[up.Least()] = next
	}
	return next
}

// blend: x lo + y hi.
func blend[P msm.Group[P]](x, y scalar.Scalar, list []P) []P {
	lo, hi := halves(list)
	sums := make([]P, len(lo))
	for i := range sums {
		sums[i] = lo[i].Times(x).Add(hi[i].Times(y))
	}
	return sums
}

// halves: of a list of an even length. The first has no room behind it, for that is the second.
func halves[T any](list []T) (lo, hi []T) {
	middle := len(list) / 2
	return list[:middle:middle], list[middle:]
}
