package circuit

import (
	"cmp"
	"slices"

	"veil/api"
	"veil/scalar"
)

// The kinds of wires, as api counts them and as they stand in a system's bytes.
const (
	kindOne = api.WireOne + iota
	kindLeft
	kindRight
	kindOut
	kindValue
	kinds // behind the last
)

// Wire: a wire: its kind (api.WireOne ..) and its number (0 for WireOne).
type Wire struct {
	Kind, I int
}

// byWire: the order of wires.
func byWire(a, b Wire) int {
	return cmp.Or(cmp.Compare(a.Kind, b.Kind), cmp.Compare(a.I, b.I))
}

// Term: K times a wire.
type Term struct {
	Wire Wire
	K    scalar.Scalar
}

// Lin: a sum of terms.
type Lin []Term

// factors: what each wire is multiplied by, added up.
type factors map[Wire]scalar.Scalar

// put: the terms of a sum, each with what turn makes of its factor.
func (f factors) put(a Lin, turn func(scalar.Scalar) scalar.Scalar) {
	for _, x := range a {
		f[x.Wire] = f[x.Wire].Add(turn(x.K))
	}
}

// told: all that was put, as the least sum; then there is nothing, and the next sum can be put.
func (f factors) told() Lin {
	var least Lin
	for w, k := range f {
		if !k.IsZero() {
			least = append(least, Term{w, k})
		}
	}
	clear(f)
	slices.SortFunc(least, func(x, y Term) int { return byWire(x.Wire, y.Wire) })
	return least
}

// sum: a + b, least.
func (f factors) sum(a, b Lin) Lin {
	f.put(a, scalar.Scalar.Least)
	f.put(b, scalar.Scalar.Least)
	return f.told()
}

// difference: a - b, least.
func (f factors) difference(a, b Lin) Lin {
	f.put(a, scalar.Scalar.Least)
	f.put(b, scalar.Scalar.Neg)
	return f.told()
}

// Of: a wire as a sum.
func Of(w Wire) Lin { return Lin{{w, scalar.Int(1)}} }

// Const: a number as a sum.
func Const(k scalar.Scalar) Lin { return Of(Wire{Kind: kindOne}).Times(k) }

// Add: a + b.
func (a Lin) Add(b Lin) Lin { return factors{}.sum(a, b) }

// Sub: a - b.
func (a Lin) Sub(b Lin) Lin { return factors{}.difference(a, b) }

// Times: k a.
func (a Lin) Times(k scalar.Scalar) Lin {
	f := factors{}
	f.put(a, k.Mul)
	return f.told()
}

// Least: each wire at most once, by kind and number, none with the factor 0.
func (a Lin) Least() Lin { return factors{}.sum(a, nil) }
