package tree

import (
	"slices"

	"veil/algebra"
	"veil/scalar"
)

// known: what is known so far: elements as multiples of the generators, or a relation of these. It is told by lists of scalars, one for each generator.
type known interface {
	// through: the same by other generators, when turn tells multiples of the one as multiples of the other.
	through(turn func([]scalar.Scalar) []scalar.Scalar) known
}

// opened: one list for each element.
type opened [][]scalar.Scalar

// related: a relation.
type related []scalar.Scalar

func (k opened) through(turn func([]scalar.Scalar) []scalar.Scalar) known {
	turned := make(opened, len(k))
	for i, ks := range k {
		turned[i] = turn(ks)
	}
	return turned
}

func (k related) through(turn func([]scalar.Scalar) []scalar.Scalar) known { return related(turn(k)) }

// fact: so much of each element that is asked for comes to what is known (the first of it).
type fact struct {
	of []scalar.Scalar
	is known
}

// settle: the first of the elements that facts speak of, as many as are wanted. The first facts, as many as there are elements, are independent, for challenges are unlike: by these all is known; and the others say the same, or there is a relation.
func settle(facts []fact, wanted int) known {
	var told [][]scalar.Scalar
	for _, f := range facts {
		switch k := f.is.(type) {
		case related:
			return k
		case opened:
			told = append(told, k[0])
		}
	}
	count := len(facts[0].of)
	columns := columnsOf(facts[:count])
	for i := count; i < len(facts); i++ {
		rest := less(told[i], combined(columns, facts[i].of, told))
		if slices.ContainsFunc(rest, isOther) {
			return related(rest)
		}
	}
	found := make(opened, wanted)
	for place := range found {
		alone := make([]scalar.Scalar, count)
		alone[place] = scalar.Int(1)
		found[place] = combined(columns, alone, told)
	}
	return found
}

// columnsOf: how much of each element is in each of the facts.
func columnsOf(facts []fact) [][]scalar.Scalar {
	columns := make([][]scalar.Scalar, len(facts))
	for _, f := range facts {
		for element, k := range f.of {
			columns[element] = append(columns[element], k)
		}
	}
	return columns
}

// combined: what so much of each element comes to, by facts that are independent and what they tell.
func combined(columns [][]scalar.Scalar, of []scalar.Scalar, told [][]scalar.Scalar) []scalar.Scalar {
	ks, _ := algebra.Solve(columns, of)
	sum := make([]scalar.Scalar, len(told[0]))
	for i, k := range ks {
		sum, _ = algebra.Mix(scalar.Int(1), sum, k, told[i])
	}
	return sum
}

// isOther: than 0.
func isOther(k scalar.Scalar) bool { return !k.IsZero() }

// less: a - b.
func less(a, b []scalar.Scalar) []scalar.Scalar {
	one := scalar.Int(1)
	rest, _ := algebra.Mix(one, a, one.Neg(), b)
	return rest
}
