package ipa

import (
	"iter"
	"slices"

	"veil/api"
	"veil/msm"
	"veil/scalar"
)

// Rounds: the statements of an argument, folded round by round: the first one is s.
func Rounds[P msm.Group[P]](s Statement[P], x Argument[P], us []scalar.Scalar) iter.Seq[Statement[P]] {
	if refusal(s, x, us) != api.OK {
		return func(func(Statement[P]) bool) {}
	}
	// Copies: whoever ranges does so later, when the lists that were handed in may hold something else.
	kept := folds(relisted(s), Argument[P]{L: slices.Clone(x.L), R: slices.Clone(x.R)}, slices.Clone(us))
	return func(yield func(Statement[P]) bool) {
		own := relisted[P]
		for now := range kept {
			if !yield(own(now)) {
				return
			}
			own = remade[P]
		}
	}
}

// Verify: round by round: is the last statement what a and b say?
func Verify[P msm.Group[P]](s Statement[P], x Argument[P], us []scalar.Scalar) api.Errno {
	if e := refusal(s, x, us); e != api.OK {
		return e
	}
	var last Statement[P]
	for now := range folds(s, x, us) {
		last = now
	}
	told := image(last.Q, last.G, last.H, []scalar.Scalar{x.A}, []scalar.Scalar{x.B})
	if !told.Same(last.P) {
		return api.ErrFold
	}
	return api.OK
}

// refusal: ErrLength, if an argument does not fit; ErrZero, if a challenge is 0.
func refusal[P any](s Statement[P], x Argument[P], us []scalar.Scalar) api.Errno {
	size := len(s.G)
	if len(s.H) != size || !isSize(size) || !alike(rounds(size), len(x.L), len(x.R), len(us)) {
		return api.ErrLength
	}
	return zeroAmong(us)
}

// zeroAmong: ErrZero, if a challenge is 0.
func zeroAmong(us []scalar.Scalar) api.Errno {
	if slices.ContainsFunc(us, scalar.Scalar.IsZero) {
		return api.ErrZero
	}
	return api.OK
}

// folds: the statements of an argument that fits, each made when it is asked for, of the one ahead of it; none is copied.
func folds[P msm.Group[P]](s Statement[P], x Argument[P], us []scalar.Scalar) iter.Seq[Statement[P]] {
	return func(yield func(Statement[P]) bool) {
		now := s
		for t, u := range us {
			if !yield(now) {
				return
			}
			now = fold(now, x.L[t], x.R[t], u)
		}
		yield(now)
	}
}

// fold: a statement of an even size by a round's elements and its challenge.
func fold[P msm.Group[P]](s Statement[P], l, r P, u scalar.Scalar) Statement[P] {
	inverse := u.Invert()
	return Statement[P]{
		P: l.Times(u.Mul(u)).Add(s.P).Add(r.Times(inverse.Mul(inverse))),
		Q: s.Q,
		G: blend(inverse, u, s.G),
		H: blend(u, inverse, s.H),
	}
}

// blend: x lo + y hi.
func blend[P msm.Group[P]](x, y scalar.Scalar, list []P) []P {
	lo, hi := halves(list)
	folded := make([]P, len(lo))
	for i := range folded {
		folded[i] = lo[i].Times(x).Add(hi[i].Times(y))
	}
	return folded
}

// relisted: the statement by lists of its own, of the same elements.
func relisted[P msm.Group[P]](s Statement[P]) Statement[P] {
	return Statement[P]{P: s.P, Q: s.Q, G: slices.Clone(s.G), H: slices.Clone(s.H)}
}

// remade: the statement by elements of its own, too, but for Q: an element may hold memory, and the next statement is folded from those that are kept.
func remade[P msm.Group[P]](s Statement[P]) Statement[P] {
	var neutral P
	return Statement[P]{P: neutral.Add(s.P), Q: s.Q, G: remadeList(s.G), H: remadeList(s.H)}
}

// remadeList: the same elements, by memory of their own.
func remadeList[P msm.Group[P]](list []P) []P {
	var neutral P
	own := make([]P, len(list))
	for i, p := range list {
		own[i] = neutral.Add(p)
	}
	return own
}
