package ideal

import (
	"veil/algebra"
	"veil/api"
	"veil/ranges"
	"veil/scalar"
)

// behind: what hangs on y and z alone, as functions over powers that are made once.
type behind struct {
	// What stands in front of G and of H in A + x S (aL + x sL and aR + x sR) is covered by y and z to l(x) and r(x).
	cover   func(ofG, ofH []scalar.Scalar) (l, r []scalar.Scalar)
	uncover func(l, r []scalar.Scalar) (ofG, ofH []scalar.Scalar)

	square  func(sL, sR []scalar.Scalar) scalar.Scalar // t2
	left    func(that scalar.Scalar) scalar.Scalar     // that less Delta
	weights func(k scalar.Scalar) []scalar.Scalar      // k z^(2 + j): one for each value
	blinds  func(vs []ranges.Opening) scalar.Scalar    // the sum of z^(2 + j) g_j
}

func behindOf(p api.Params, y, z scalar.Scalar) behind {
	ys, _ := algebra.Powers(y, p.Size())
	zs, _ := algebra.Powers(z, 2+p.Count)
	values := zs[2:]
	bits := spread(values, p.Bits)
	delta, _ := ranges.Delta(p, y, z)
	return behind{
		cover:   coverer(ys, bits, z),
		uncover: uncoverer(ys, bits, z),
		square:  squarer(ys),
		left:    func(that scalar.Scalar) scalar.Scalar { return that.Sub(delta) },
		weights: weigher(values),
		blinds:  blinder(values),
	}
}

// spread: each of the values' powers times 1, 2, 4, ..: one for each place.
func spread(powers []scalar.Scalar, bits int) []scalar.Scalar {
	var list []scalar.Scalar
	for _, power := range powers {
		for place := range bits {
			list = append(list, power.Mul(scalar.Int(1<<place)))
		}
	}
	return list
}

// coverer: each a - z, and each y^i (b + z) + z^(2 + j(i)) pow(i).
func coverer(ys, bits []scalar.Scalar, z scalar.Scalar) func(a, b []scalar.Scalar) (l, r []scalar.Scalar) {
	return func(a, b []scalar.Scalar) (l, r []scalar.Scalar) {
		for i, y := range ys {
			l = append(l, a[i].Sub(z))
			r = append(r, y.Mul(b[i].Add(z)).Add(bits[i]))
		}
		return l, r
	}
}

// uncoverer: what coverer's function was handed, by what it answered.
func uncoverer(ys, bits []scalar.Scalar, z scalar.Scalar) func(l, r []scalar.Scalar) (a, b []scalar.Scalar) {
	downs := scalar.InvertAll(ys...)
	return func(l, r []scalar.Scalar) (a, b []scalar.Scalar) {
		for i, down := range downs {
			a = append(a, l[i].Add(z))
			b = append(b, down.Mul(r[i].Sub(bits[i])).Sub(z))
		}
		return a, b
	}
}

// squarer: what X X is multiplied by in <l(X), r(X)>.
func squarer(ys []scalar.Scalar) func(sL, sR []scalar.Scalar) scalar.Scalar {
	return func(sL, sR []scalar.Scalar) scalar.Scalar {
		ofR, _ := algebra.Each(ys, sR)
		t2, _ := algebra.Inner(sL, ofR)
		return t2
	}
}

// weigher: each power times a scalar.
func weigher(powers []scalar.Scalar) func(k scalar.Scalar) []scalar.Scalar {
	return func(k scalar.Scalar) []scalar.Scalar {
		list := make([]scalar.Scalar, len(powers))
		for j, power := range powers {
			list[j] = power.Mul(k)
		}
		return list
	}
}

// blinder: the blindings, each times its power.
func blinder(powers []scalar.Scalar) func(vs []ranges.Opening) scalar.Scalar {
	return func(vs []ranges.Opening) scalar.Scalar {
		var sum scalar.Scalar
		for j, power := range powers {
			sum = sum.Add(power.Mul(vs[j].Blind))
		}
		return sum
	}
}
