package witness

import (
	"math/bits"
	"slices"

	"veil/arith"
	"veil/circuit"
	"veil/scalar"
	"veil/tree"
)

// How many branches there are, where that hangs on nothing.
const (
	xsOfZ  = 6
	wsOfX  = 2
	kidsOf = 4
)

// shape: how many branches there are, where that hangs on the system. As many ys as places: N.
type shape struct{ ys, zs, rounds int }

// shapeOf: without ys, if there is no system.
func shapeOf(s *circuit.System) shape {
	size := arith.Size(s)
	return shape{ys: size, zs: s.Requires() + 1, rounds: bits.Len(uint(size)) - 1}
}

// unlike: is none of them 0, and are no two the same?
func unlike(list []scalar.Scalar) bool {
	seen := map[scalar.Scalar]struct{}{{}: {}} // 0 first: it is one too many then
	for _, k := range list {
		seen[k.Least()] = struct{}{}
	}
	return len(seen) == 1+len(list)
}

// square: what kids' challenges must be unlike in.
func square(u scalar.Scalar) scalar.Scalar { return u.Mul(u) }

// each: of all of a list.
func each[T any](list []T, of func(T) scalar.Scalar) []scalar.Scalar {
	scalars := make([]scalar.Scalar, len(list))
	for i, x := range list {
		scalars[i] = of(x)
	}
	return scalars
}

// full: are there so many branches, unlike in their challenges, and each of them full itself?
func full[T any](branches []T, count int, challenge func(T) scalar.Scalar, itself func(T) bool) bool {
	return len(branches) == count && unlike(each(branches, challenge)) &&
		!slices.ContainsFunc(branches, func(branch T) bool { return !itself(branch) })
}

// full: has the tree the arities?
func (t Tree[P]) full(n shape) bool {
	return full(t.Ys, n.ys, func(y Y[P]) scalar.Scalar { return y.Y }, func(y Y[P]) bool { return y.full(n) })
}

func (y Y[P]) full(n shape) bool {
	return full(y.Zs, n.zs, func(z Z[P]) scalar.Scalar { return z.Z }, func(z Z[P]) bool { return z.full(n) })
}

func (z Z[P]) full(n shape) bool {
	return full(z.Xs, xsOfZ, func(x X[P]) scalar.Scalar { return x.X }, func(x X[P]) bool { return x.full(n) })
}

func (x X[P]) full(n shape) bool {
	return full(x.Ws, wsOfX, func(w tree.W[P]) scalar.Scalar { return w.W }, func(w tree.W[P]) bool { return fullNode(w.Node, n.rounds) })
}

// fullNode: is it a node of so many rounds?
func fullNode[P any](n tree.Node[P], rounds int) bool {
	if rounds == 0 {
		return len(n.Kids) == 0
	}
	return full(n.Kids, kidsOf, func(k tree.Kid[P]) scalar.Scalar { return square(k.U) }, func(k tree.Kid[P]) bool { return fullNode(k.Node, rounds-1) })
}

// asks: are they the challenges of a tree with the arities?
func asks(c tree.Challenges, n shape) bool {
	return len(c.Ys) == n.ys && len(c.Zs) == n.zs && len(c.Xs) == xsOfZ && len(c.Ws) == wsOfX && len(c.Us) == kidsOf &&
		unlike(c.Ys) && unlike(c.Zs) && unlike(c.Xs) && unlike(c.Ws) && unlike(each(c.Us, square))
}
