package tree

import (
	"slices"

	"veil/api"
	"veil/gens"
	"veil/msm"
	"veil/ranges"
	"veil/scalar"
)

// known: of the P for which a node was accepted, by q, all of g and all of h.
//
// Where the four kids agree with one another a and b stand in front of g and h, and <a, b> in front of q: see ipa.Join, which would ask each image once more.
func (n Node[P]) known() known {
	if len(n.Kids) == 0 {
		return opened{{n.A.Mul(n.B), n.A.Least(), n.B.Least()}}
	}
	var facts []fact
	ups, downs := n.challenges()
	for i, kid := range n.Kids {
		facts = append(facts, fact{
			of: []scalar.Scalar{scalar.Int(1), square(ups[i]), square(downs[i])}, // P, L, R
			is: kid.Node.known().through(unfolder(ups[i], downs[i])),
		})
	}
	return settle(facts, 1)
}

// unfolder: multiples of q and of lists that were folded, as multiples of q and of the lists ahead of that.
func unfolder(up, down scalar.Scalar) func([]scalar.Scalar) []scalar.Scalar {
	return func(ks []scalar.Scalar) []scalar.Scalar {
		ofG, ofH := halves(ks[1:])
		return slices.Concat(ks[:1], times(down, ofG), times(up, ofG), times(up, ofH), times(down, ofH))
	}
}

// times: k times each.
func times(k scalar.Scalar, list []scalar.Scalar) []scalar.Scalar { return each(list, k.Mul) }

// parts: what is known of a node, as a and b, or as a relation.
func parts(k known, size int) (a, b, relation []scalar.Scalar) {
	switch k := k.(type) {
	case opened:
		a, b = slices.Clone(k[0][1:1+size]), slices.Clone(k[0][1+size:])
	case related:
		relation = k
	}
	return a, b, relation
}

// ofBits: of A and S, by the second statements of all conversations.
func ofBits[P any](p api.Params, t Tree[P]) known {
	var facts []fact
	for _, y := range t.Ys {
		for _, z := range y.Zs {
			for view, ws := range views(t, y, z) {
				facts = append(facts, fact{of: []scalar.Scalar{scalar.Int(1), view.X}, is: ofBoth(p, view, ws)})
			}
		}
	}
	return settle(facts, 0)
}

// ofBoth: of A + x S, by all that was said behind that. Two w tell it by the same l and r alone, with <l, r> = that: nothing of Q is left.
func ofBoth[P any](p api.Params, w ranges.View[P], ws []W[P]) known {
	// Over Basis an element tells its multiples of the generators itself; with A and S neutral a statement tells what else it says.
	basis, _ := gens.Basis(p.Size())
	bare := ranges.View[msm.Free]{Y: w.Y, Z: w.Z, X: w.X, Mu: w.Mu, That: w.That}
	var facts []fact
	for _, branch := range ws {
		q, sum, h, _ := ranges.Statement(basis, p, bare, branch.W)
		turn := teller(slices.Concat([]msm.Free{q}, basis.G, h), width(p))
		facts = append(facts, fact{
			of: []scalar.Scalar{scalar.Int(1)},
			is: without(branch.Node.known().through(turn), padded(sum, width(p))),
		})
	}
	return settle(facts, 1)
}

// width: how many generators there are.
func width(p api.Params) int { return 3 + 2*p.Size() }

// teller: multiples of elements over Basis as multiples of its generators.
func teller(elements []msm.Free, width int) func([]scalar.Scalar) []scalar.Scalar {
	return func(ks []scalar.Scalar) []scalar.Scalar {
		terms, _ := msm.Zip(ks, elements)
		return padded(msm.Plain(terms...), width)
	}
}

// padded: the multiples of all generators of Basis that an element has.
func padded(a msm.Free, width int) []scalar.Scalar {
	list := make([]scalar.Scalar, width)
	copy(list, a.K)
	return list
}

// without: what is known of an element that has so much less of the generators.
func without(k known, ks []scalar.Scalar) known {
	switch k := k.(type) {
	case opened:
		return opened{less(k[0], ks)}
	default:
		return k
	}
}

// ofValues: of all commitments, by the first equations of all conversations.
func ofValues[P any](p api.Params, t Tree[P]) known {
	var facts []fact
	for _, y := range t.Ys {
		for _, z := range y.Zs {
			facts = append(facts, fact{of: weightsOf(p, z.Z), is: ofSum(p, t, y, z)})
		}
	}
	return settle(facts, p.Count)
}

// ofSum: of the sum of z^(2 + j) V_j, of T1 and of T2, behind a y and a z.
func ofSum[P any](p api.Params, t Tree[P], y Y[P], z Z[P]) known {
	var facts []fact
	for view := range views(t, y, z) {
		facts = append(facts, fact{
			of: []scalar.Scalar{scalar.Int(1), view.X, square(view.X)},
			is: opened{padded(msm.Free{K: []scalar.Scalar{beyond(p, view), view.TauX.Least()}}, width(p))},
		})
	}
	return settle(facts, 1)
}

// outcome: of what is known of A and S, and of the commitments.
//
// Without a relation all conversations come of the same A = .. + <aL, G> + <aR, H> and S, and so that is the value at x of one polynomial for each y and z; what that is at 0, less Delta, is the sum of z^(2 + j) v_j. Both sides are polynomials of z of the degree m + 1 that agree at m + 2 places: so they are the same. By that, at N places y, a polynomial of the degree N - 1 whose coefficients are aL_i aR_i is 0, and another whose coefficients are aL_i - aR_i - 1: so each aL_i is 0 or 1; and v_j is the sum of the pow(i) aL_i, which is below 2^n.
func outcome(bits, values known) Outcome {
	if relation, ok := bits.(related); ok {
		return Outcome{Relation: relation}
	}
	var out Outcome
	switch k := values.(type) {
	case opened:
		for _, ks := range k {
			out.Openings = append(out.Openings, ranges.Opening{V: ks[0][0], Blind: ks[1]})
		}
	case related:
		out.Relation = k
	}
	return out
}
