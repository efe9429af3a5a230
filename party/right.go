package party

import (
	"veil/algebra"
	"veil/api"
	"veil/gens"
	"veil/msm"
	"veil/scalar"
)

// Right: is a share right, by itself?
func Right[P msm.Group[P]](g gens.Set[P], p api.Params, b Bit[P], t Poly[P], s Share, y, z, x scalar.Scalar) api.Errno {
	switch {
	case !p.Allowed():
		return api.ErrParams
	case !isPlace(p, b.Place) || t.Place != b.Place || s.Place != b.Place:
		return api.ErrPlace
	case !enough(g, p) || len(s.L) != p.Bits || len(s.R) != p.Bits:
		return api.ErrLength
	}
	if e := zeroAmong(y, z, x); e != api.OK {
		return e
	}
	w, part := powersOf(p, b.Place, y, z), partOf(g, p, b.Place)
	switch {
	case !first(part, b, t, s, w, x):
		return api.ErrFirst
	case !second(part, b, s, w, x):
		return api.ErrSecond
	}
	if that, _ := algebra.Inner(s.L, s.R); !that.Same(s.That) {
		return api.ErrInner
	}
	return api.OK
}

// first: does the first equation hold, for a part? What is told of B stands on the left side.
func first[P msm.Group[P]](part gens.Set[P], b Bit[P], t Poly[P], s Share, w powers, x scalar.Scalar) bool {
	right := msm.Plain(
		msm.Term[P]{K: w.value, P: b.V},
		msm.Term[P]{K: x, P: t.T1},
		msm.Term[P]{K: x.Mul(x), P: t.T2},
	)
	return gens.Commit(part, s.That.Sub(w.delta()), s.TauX).Same(right)
}

// second: does the second equation hold, for a part? On the left side A + x S stand alone. h_i is y^-i H_i: of z y^i h_i z H_i is left.
func second[P msm.Group[P]](part gens.Set[P], b Bit[P], s Share, w powers, x scalar.Scalar) bool {
	ofG, ofH := make([]scalar.Scalar, len(w.ys)), make([]scalar.Scalar, len(w.ys))
	for i, down := range scalar.InvertAll(w.ys...) {
		ofG[i] = s.L[i].Add(w.z)
		ofH[i] = s.R[i].Sub(w.bits[i]).Mul(down).Sub(w.z)
	}
	right, _ := gens.CommitVectors(part, ofG, ofH, s.Mu)
	return b.A.Add(b.S.Times(x)).Same(right)
}
