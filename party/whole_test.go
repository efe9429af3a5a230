package party_test

// P1406: tapes put together.

import (
	"math/big"
	"slices"
	"testing"

	"veil/api"
	"veil/party"
	"veil/ranges"
	"veil/sample"
	"veil/scalar"
)

// together: what the tape of a single prover must be.
func together(ks []secret) (alpha, rho, tau1, tau2 *big.Int, sL, sR numbers) {
	alpha, rho, tau1, tau2 = new(big.Int), new(big.Int), new(big.Int), new(big.Int)
	for _, k := range ks {
		alpha, rho, tau1, tau2 = plus(alpha, k.alpha), plus(rho, k.rho), plus(tau1, k.tau1), plus(tau2, k.tau2)
		sL, sR = append(sL, k.sL...), append(sR, k.sR...)
	}
	return alpha, rho, tau1, tau2, sL, sR
}

func TestP1406Whole(t *testing.T) {
	m := sample.Maker(1406)
	for _, p := range allParams(api.MaxSize) {
		ks := anySecrets(&m, p)
		_, tapes := handed(&m, ks)
		whole, e := party.Whole(p, tapes...)
		errno(t, "Whole", e, api.OK)
		alpha, rho, tau1, tau2, sL, sR := together(ks)
		told(t, "Alpha, Rho, Tau1, Tau2", []scalar.Scalar{whole.Alpha, whole.Rho, whole.Tau1, whole.Tau2}, alpha, rho, tau1, tau2)
		told(t, "SL", whole.SL, sL...)
		told(t, "SR", whole.SR, sR...)
	}
}

func noTape(t *testing.T, what string, tape ranges.Tape, got, want api.Errno) {
	t.Helper()
	errno(t, what, got, want)
	if !sameTapes(tape, ranges.Tape{}) {
		t.Errorf("%s: a tape beside an error", what)
	}
}

func sameTapes(a, b ranges.Tape) bool {
	return a.Alpha == b.Alpha && a.Rho == b.Rho && a.Tau1 == b.Tau1 && a.Tau2 == b.Tau2 && slices.Equal(a.SL, b.SL) && slices.Equal(a.SR, b.SR)
}

// spoiltTapes: tapes for these Params with something wrong about their lengths.
func spoiltTapes(p api.Params) [][]ranges.Tape {
	good := func() []ranges.Tape {
		var list []ranges.Tape
		for range p.Count {
			list = append(list, tapeOfLength(p.Bits, p.Bits))
		}
		return list
	}
	list := [][]ranges.Tape{nil, {}, good()[1:], append(good(), good()[0])}
	for j := range p.Count {
		for _, lengths := range [][2]int{{p.Bits - 1, p.Bits}, {p.Bits + 1, p.Bits}, {p.Bits, p.Bits - 1}, {p.Bits, p.Bits + 1}, {0, 0}, {p.Bits + 1, p.Bits - 1}} {
			tapes := good()
			tapes[j] = tapeOfLength(lengths[0], lengths[1])
			list = append(list, tapes)
		}
	}
	if p.Count > 1 { // as many scalars in all as there should be
		tapes := good()
		tapes[0], tapes[1] = tapeOfLength(p.Bits-1, p.Bits+1), tapeOfLength(p.Bits+1, p.Bits-1)
		list = append(list, tapes)
	}
	return list
}

func TestP1406Errors(t *testing.T) {
	for _, p := range allParams(64) {
		for _, tapes := range spoiltTapes(p) {
			tape, e := party.Whole(p, tapes...)
			noTape(t, "Whole", tape, e, api.ErrLength)
		}
	}
	for _, p := range noParams() {
		for count := range 3 {
			tape, e := party.Whole(p, make([]ranges.Tape, count)...)
			noTape(t, "Whole", tape, e, api.ErrParams)
		}
	}
}
