package witness

import (
	"slices"

	"veil/algebra"
	"veil/circuit"
	"veil/scalar"
)

// The elements that facts are about: AI, AO and S, then the commitments.
const (
	ofAI = iota
	ofAO
	ofS
	ofV
)

// The generators by which facts tell them: B, Blind and Q, then all of G, then all of H.
const (
	byB = iota
	byBlind
	byQ
	byG
)

// fact: so much of each element comes to so much of each generator.
type fact struct{ of, is []scalar.Scalar }

// less: without k times the other one.
func (f fact) less(k scalar.Scalar, other fact) fact {
	return fact{less(f.of, k, other.of), less(f.is, k, other.is)}
}

// less: a - k b, place by place.
func less(a []scalar.Scalar, k scalar.Scalar, b []scalar.Scalar) []scalar.Scalar {
	rest, _ := algebra.Mix(scalar.Int(1), a, k.Neg(), b)
	return rest
}

// times: k times all of it.
func (f fact) times(k scalar.Scalar) fact { return fact{each(f.of, k.Mul), each(f.is, k.Mul)} }

// known: what is known so far: the elements, as far as facts have told them; or a relation.
type known interface {
	// with: what is known behind one fact more.
	with(f fact) known
}

// assigned: a fact for each element that is known so far, the others' being empty. Each is about its own element once, about none of the other known ones, and in the end about nothing else.
type assigned []fact

// related: a relation: scalars, not all 0, with which the generators' sum is neutral.
type related []scalar.Scalar

// with: what a fact tells beyond the known ones is of a new element; or of none, and then its generators' sum is neutral.
func (k assigned) with(f fact) known {
	for element, other := range k {
		if other.of != nil {
			f = f.less(f.of[element], other)
		}
	}
	element := slices.IndexFunc(f.of, isOther)
	switch {
	case element >= 0:
		return k.and(element, f.times(f.of[element].Invert()))
	case slices.ContainsFunc(f.is, isOther):
		return related(f.is)
	}
	return k
}

// and: with the fact of a new element.
func (k assigned) and(element int, f fact) assigned {
	all := slices.Clone(k)
	for i, other := range k {
		if other.of != nil {
			all[i] = other.less(other.of[element], f)
		}
	}
	all[element] = f
	return all
}

// with: by a relation all is said.
func (k related) with(fact) known { return k }

// isOther: than 0.
func isOther(k scalar.Scalar) bool { return !k.IsZero() }

// outcome: of all that is known by a tree whose conversations are all accepted.
//
// Without a relation each l and r is the value at x of one polynomial for its y and z, made of the wires that AI and AO hold, and that = <l, r> at six places: so the sum of wV_j v_j, as the first equations tell it, is the coefficient t2 less Delta and C. (What AO may hold of H stands behind X X in r(X), and l(X) has no constant coefficient: t2 has nothing of it.) That is: the sum of y^i (aL_i aR_i - aO_i), and of z^(q + 1) times requirement q, is 0. Behind one y this is a polynomial of z of the degree Q that is 0 at Q + 1 places: so each requirement is met; and its constant coefficient is one of y of the degree N - 1 that is 0 at N places: so each gate multiplies.
//
// All elements are known then: three x tell AI, AO and S; and the wV_j are independent polynomials of z, for z^(j + 1) stands in wV_j, and in no other one ahead of the powers behind m: so Q + 1 places tell all commitments.
func outcome(k known, gates, size int) Outcome {
	var out Outcome
	switch k := k.(type) {
	case assigned:
		byH := byG + size
		out.Assignment = circuit.Assignment{
			L: least(k[ofAI].is[byG : byG+gates]),
			R: least(k[ofAI].is[byH : byH+gates]),
			O: least(k[ofAO].is[byG : byG+gates]),
		}
		for _, v := range k[ofV:] {
			out.Assignment.V = append(out.Assignment.V, v.is[byB].Least())
			out.Blinds = append(out.Blinds, v.is[byBlind].Least())
		}
	case related:
		out.Relation = least(k)
	}
	return out
}

// least: a new list of the same.
func least(list []scalar.Scalar) []scalar.Scalar { return each(list, scalar.Scalar.Least) }
