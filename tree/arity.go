package tree

import (
	"math/bits"
	"slices"

	"veil/api"
	"veil/scalar"
)

// How many branches there are, where that hangs on nothing.
const (
	xsOfZ  = 3
	wsOfX  = 2
	kidsOf = 4
)

// zsOf: how many branches a y has: two more than there are values.
func zsOf(p api.Params) int { return p.Count + 2 }

// isSize: a power of two from 1 to api.MaxSize?
func isSize(n int) bool { return n >= 1 && n <= api.MaxSize && n&(n-1) == 0 }

// rounds: of a size: how often it can be halved.
func rounds(size int) int { return bits.Len(uint(size)) - 1 }

// unlike: is none of them 0, and are no two the same?
func unlike(list []scalar.Scalar) bool {
	for i, k := range list {
		if k.IsZero() || slices.ContainsFunc(list[:i], k.Same) {
			return false
		}
	}
	return true
}

// square: what kids' challenges must be unlike in.
func square(u scalar.Scalar) scalar.Scalar { return u.Mul(u) }

// full: are there so many branches, unlike in their challenges, and each of them full itself?
func full[T any](branches []T, count int, challenge func(T) scalar.Scalar, itself func(T) bool) bool {
	return len(branches) == count && unlike(each(branches, challenge)) &&
		!slices.ContainsFunc(branches, func(branch T) bool { return !itself(branch) })
}

// each: of all of a list.
func each[T any](list []T, of func(T) scalar.Scalar) []scalar.Scalar {
	scalars := make([]scalar.Scalar, len(list))
	for i, x := range list {
		scalars[i] = of(x)
	}
	return scalars
}

// full: has the tree the arities of these Params?
func (t Tree[P]) full(p api.Params) bool {
	return full(t.Ys, p.Size(), func(y Y[P]) scalar.Scalar { return y.Y }, func(y Y[P]) bool { return y.full(p) })
}

func (y Y[P]) full(p api.Params) bool {
	return full(y.Zs, zsOf(p), func(z Z[P]) scalar.Scalar { return z.Z }, func(z Z[P]) bool { return z.full(p) })
}

func (z Z[P]) full(p api.Params) bool {
	return full(z.Xs, xsOfZ, func(x X[P]) scalar.Scalar { return x.X }, func(x X[P]) bool { return x.full(p) })
}

func (x X[P]) full(p api.Params) bool {
	return full(x.Ws, wsOfX, func(w W[P]) scalar.Scalar { return w.W }, func(w W[P]) bool { return w.Node.full(p.Rounds()) })
}

// full: is it a node of so many rounds?
func (n Node[P]) full(rounds int) bool {
	if rounds == 0 {
		return len(n.Kids) == 0
	}
	return full(n.Kids, kidsOf, func(k Kid[P]) scalar.Scalar { return square(k.U) }, func(k Kid[P]) bool { return k.Node.full(rounds - 1) })
}

// full: are they the challenges of a tree with the arities of these Params?
func (c Challenges) full(p api.Params) bool {
	return len(c.Ys) == p.Size() && len(c.Zs) == zsOf(p) && len(c.Xs) == xsOfZ && len(c.Ws) == wsOfX && len(c.Us) == kidsOf &&
		unlike(c.Ys) && unlike(c.Zs) && unlike(c.Xs) && unlike(c.Ws) && unlike(each(c.Us, square))
}
