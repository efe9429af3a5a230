package ipa

import (
	"slices"

	"veil/algebra"
	"veil/api"
	"veil/msm"
	"veil/scalar"
)

// Branch: one answer to a round's challenge: what is known of the folded statement.
type Branch struct {
	U    scalar.Scalar
	A, B []scalar.Scalar
}

// Join: of four answers to one round what is known of the statement ahead of it: a and b with their inner product; or a relation of q, g, h.
func Join[P msm.Group[P]](s Statement[P], l, r P, four []Branch) (a, b, relation []scalar.Scalar, e api.Errno) {
	if e = unfit(s, four); e != api.OK {
		return nil, nil, nil, e
	}
	words := wordsOf(four)
	for _, w := range words {
		if !holds(w, s, l, r) {
			return nil, nil, nil, api.ErrNode
		}
	}

	// mixed: the four together, so that neither L nor R is left, and of P and of the last branch so much.
	mixed := func(ofP, ofLast uint64) []scalar.Scalar {
		ks, _ := algebra.Solve(system(words), []scalar.Scalar{{}, scalar.Int(ofP), {}, scalar.Int(ofLast)})
		sum := make([]scalar.Scalar, len(words[0].left))
		for i, w := range words {
			sum, _ = algebra.Mix(scalar.Int(1), sum, ks[i], w.left)
		}
		return sum
	}
	if rest := mixed(0, 1); slices.ContainsFunc(rest, isOther) {
		return nil, nil, rest, api.OK
	}
	// The last branch says nothing else than the three ahead of it, so all four come of the same multiples for L, for P and for R. Both halves of G tell a branch's A, as polynomials of u u that agree in four places, so everywhere; both halves of H tell its B. By that what P has of Q is the inner product of what it has of G and of H.
	known := mixed(1, 0)
	end := 1 + len(s.G)
	return slices.Clone(known[1:end]), slices.Clone(known[end:]), nil, api.OK
}

// isOther: than 0.
func isOther(k scalar.Scalar) bool { return !k.IsZero() }

// unfit: what is wrong with branches by their lengths and challenges alone.
func unfit[P any](s Statement[P], four []Branch) api.Errno {
	size := len(s.G)
	if len(s.H) != size || size < 2 || !isSize(size) || len(four) != 4 {
		return api.ErrLength
	}
	for _, branch := range four {
		if !alike(size/2, len(branch.A), len(branch.B)) {
			return api.ErrLength
		}
	}
	if e := zeroAmong(challenges(four)); e != api.OK {
		return e
	}
	for i, branch := range four {
		if slices.ContainsFunc(four[:i], branch.meets) {
			return api.ErrSame
		}
	}
	return api.OK
}

// challenges: of all branches.
func challenges(four []Branch) []scalar.Scalar {
	us := make([]scalar.Scalar, len(four))
	for i, branch := range four {
		us[i] = branch.U
	}
	return us
}

// meets: have both challenges the same square?
func (b Branch) meets(other Branch) bool { return b.U.Mul(b.U).Same(other.U.Mul(other.U)) }

// word: what a branch says of the statement that is not folded: these multiples of Q, G and H come to these of L, P and R.
type word struct {
	left, right []scalar.Scalar
}

// wordsOf: of all branches, whose challenges are not 0.
func wordsOf(four []Branch) []word {
	inverses := scalar.InvertAll(challenges(four)...)
	words := make([]word, len(four))
	for i, branch := range four {
		up, down := branch.U, inverses[i]
		inner, _ := algebra.Inner(branch.A, branch.B)
		words[i] = word{
			left: slices.Concat([]scalar.Scalar{inner},
				times(down, branch.A), times(up, branch.A), times(up, branch.B), times(down, branch.B)),
			right: []scalar.Scalar{up.Mul(up), scalar.Int(1), down.Mul(down)},
		}
	}
	return words
}

// times: k times each.
func times(k scalar.Scalar, list []scalar.Scalar) []scalar.Scalar {
	products := make([]scalar.Scalar, len(list))
	for i, x := range list {
		products[i] = k.Mul(x)
	}
	return products
}

// holds: is it so, with these elements?
func holds[P msm.Group[P]](w word, s Statement[P], l, r P) bool {
	left, _ := msm.Zip(w.left, slices.Concat([]P{s.Q}, s.G, s.H))
	right, _ := msm.Zip(times(scalar.Int(1).Neg(), w.right), []P{l, s.P, r})
	var neutral P
	return total(append(left, right...)).Same(neutral)
}

// system: how much of L, of P, of R and of the last one is in each of four words.
func system(words []word) [][]scalar.Scalar {
	rows := make([][]scalar.Scalar, len(words))
	for i, w := range words {
		var last scalar.Scalar
		if i == len(words)-1 {
			last = scalar.Int(1)
		}
		for row, k := range append(slices.Clone(w.right), last) {
			rows[row] = append(rows[row], k)
		}
	}
	return rows
}
