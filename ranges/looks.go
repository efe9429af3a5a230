package ranges

import (
	"errors"
	"slices"

	"veil/api"
	"veil/gens"
	"veil/msm"
	"veil/scalar"
	"veil/transcript"
)

// look: one thing that is looked at, and what is answered, unless it is so.
type look struct {
	so    func() bool
	fault api.Errno
}

// firstFault: the answer of the first that is not so. Those behind it are not looked at: they may lean on it.
func firstFault(looks ...look) api.Errno {
	for _, l := range looks {
		if !l.so() {
			return l.fault
		}
	}
	return api.OK
}

// failed: did a call below answer an error?
func failed(e error) bool { return !errors.Is(e, api.OK) }

// there: an Oracle must be.
func there(o transcript.Oracle) look {
	return look{func() bool { return o != nil }, api.ErrArg}
}

// allowed: Params must be.
func allowed(p api.Params) look { return look{p.Allowed, api.ErrParams} }

// enough: there must be as many generators of either kind as places, at least.
func enough[P any](g gens.Set[P], p api.Params) look {
	return look{func() bool { return min(len(g.G), len(g.H)) >= p.Size() }, api.ErrLength}
}

// asMany: there must be as many as values.
func asMany(p api.Params, count int) look {
	return look{func() bool { return count == p.Count }, api.ErrLength}
}

// long: lists must have this length. It is asked for late, for Params that are not allowed may have none.
func long(length func() int, lengths ...int) look {
	return look{func() bool {
		want := length()
		return !slices.ContainsFunc(lengths, func(n int) bool { return n != want })
	}, api.ErrLength}
}

// below: values must be below 2^n.
func below(p api.Params, vs []Opening) look {
	return look{func() bool {
		top, some := p.Top()
		return !some || !slices.ContainsFunc(vs, func(v Opening) bool { return v.V >= top })
	}, api.ErrValue}
}

// nonzero: challenges must be.
func nonzero(list ...scalar.Scalar) look {
	return look{func() bool { return !slices.ContainsFunc(list, scalar.Scalar.IsZero) }, api.ErrZero}
}

// neutral: what is left of an equation must be; else this is the answer.
func neutral[P msm.Group[P]](left func() P, fault api.Errno) look {
	return look{func() bool { return isNeutral(left()) }, fault}
}

// isNeutral: is it the neutral element?
func isNeutral[P msm.Group[P]](a P) bool {
	var zero P
	return a.Same(zero)
}
