package party

import (
	"slices"

	"veil/algebra"
	"veil/api"
	"veil/gens"
	"veil/msm"
	"veil/ranges"
	"veil/scalar"
)

// isPlace: is it one of 0 to m - 1?
func isPlace(p api.Params, place int) bool { return place >= 0 && place < p.Count }

// enough: are there N generators of either kind, at least?
func enough[P any](g gens.Set[P], p api.Params) bool { return min(len(g.G), len(g.H)) >= p.Size() }

// zeroAmong: challenges must not be 0.
func zeroAmong(challenges ...scalar.Scalar) api.Errno {
	if slices.ContainsFunc(challenges, scalar.Scalar.IsZero) {
		return api.ErrZero
	}
	return api.OK
}

// own: the same element by memory of its own: one that was handed in may be written into later.
func own[P msm.Group[P]](a P) P {
	var zero P
	return zero.Add(a)
}

// ownSet: the first n generators by memory of their own.
func ownSet[P msm.Group[P]](g gens.Set[P], n int) gens.Set[P] {
	kept := gens.Set[P]{B: own(g.B), Blind: own(g.Blind), Q: own(g.Q)}
	for i := range n {
		kept.G, kept.H = append(kept.G, own(g.G[i])), append(kept.H, own(g.H[i]))
	}
	return kept
}

// partOf: the generators of a place.
func partOf[P any](g gens.Set[P], p api.Params, place int) gens.Set[P] {
	part, _ := g.Part(p.Bits*place, p.Bits)
	return part
}

// powers: what y and z come to in the part of place j of the whole proof.
type powers struct {
	z, value scalar.Scalar   // z, and z^(2 + j)
	ys       []scalar.Scalar // y^i, i over the part, counted over all parts
	bits     []scalar.Scalar // z^(2 + j) pow(i)
}

func powersOf(p api.Params, place int, y, z scalar.Scalar) powers {
	whole, _ := algebra.Powers(y, p.Size())
	from := p.Bits * place
	w := powers{z: z, value: z.Power(uint64(2 + place)), ys: whole[from : from+p.Bits]}
	for bit := range p.Bits {
		w.bits = append(w.bits, w.value.Mul(scalar.Int(1<<bit)))
	}
	return w
}

// delta: the part's share in Delta. All of z^(2 + j) pow(i) together are z^(2 + j) (2^n - 1).
func (w powers) delta() scalar.Scalar {
	return w.z.Sub(w.z.Mul(w.z)).Mul(algebra.Sum(w.ys...)).Sub(w.z.Mul(algebra.Sum(w.bits...)))
}

// polynomial: one of the first degree for each number of a part.
type polynomial struct {
	start, slope []scalar.Scalar
}

// at: their values.
func (f polynomial) at(x scalar.Scalar) []scalar.Scalar {
	values, _ := algebra.Mix(scalar.Int(1), f.start, x, f.slope)
	return values
}

// polynomials: l and r of a part.
func polynomials(w powers, v uint64, t ranges.Tape) (l, r polynomial) {
	one := scalar.Int(1)
	for i, y := range w.ys {
		bit := scalar.Int(v >> i & 1)
		l.start = append(l.start, bit.Sub(w.z))
		r.start = append(r.start, y.Mul(bit.Sub(one).Add(w.z)).Add(w.bits[i]))
	}
	l.slope = t.SL
	r.slope, _ = algebra.Each(w.ys, t.SR)
	return l, r
}

// product: t1 and t2 of <l(X), r(X)>.
func product(l, r polynomial) (t1, t2 scalar.Scalar) {
	there, _ := algebra.Inner(l.start, r.slope)
	back, _ := algebra.Inner(l.slope, r.start)
	t2, _ = algebra.Inner(l.slope, r.slope)
	return there.Add(back), t2
}
