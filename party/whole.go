package party

import (
	"slices"

	"veil/api"
	"veil/ranges"
	"veil/scalar"
)

// Whole: the tape with which one prover says what these parties say together.
func Whole(p api.Params, tapes ...ranges.Tape) (ranges.Tape, api.Errno) {
	switch {
	case !p.Allowed():
		return ranges.Tape{}, api.ErrParams
	case !fit(p, tapes):
		return ranges.Tape{}, api.ErrLength
	}
	var whole ranges.Tape
	for _, t := range tapes {
		whole.Alpha, whole.Rho = whole.Alpha.Add(t.Alpha), whole.Rho.Add(t.Rho)
		whole.Tau1, whole.Tau2 = whole.Tau1.Add(t.Tau1), whole.Tau2.Add(t.Tau2)
		whole.SL, whole.SR = appendLeast(whole.SL, t.SL), appendLeast(whole.SR, t.SR)
	}
	return whole, api.OK
}

// fit: is there a tape for each place, its lists as long as a value has bits?
func fit(p api.Params, tapes []ranges.Tape) bool {
	return len(tapes) == p.Count && !slices.ContainsFunc(tapes, func(t ranges.Tape) bool {
		return len(t.SL) != p.Bits || len(t.SR) != p.Bits
	})
}

// appendLeast: the list with the others behind it, by their least limbs.
func appendLeast(list, others []scalar.Scalar) []scalar.Scalar {
	for _, k := range others {
		list = append(list, k.Least())
	}
	return list
}
