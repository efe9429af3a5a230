package ideal_test

// P1602 and P1605: the map of tapes, and that by it simulator and prover say the same.

import (
	"math/big"
	"testing"

	"veil/api"
	"veil/gens"
	"veil/ideal"
	"veil/msm"
	"veil/ranges"
	"veil/sample"
	"veil/scalar"
)

// proverView: what the prover says, move by move.
func proverView[P msm.Group[P]](t *testing.T, g gens.Set[P], p api.Params, vs []ranges.Opening, y, z, x scalar.Scalar, tape ranges.Tape) ([]P, ranges.View[P]) {
	t.Helper()
	r, v, _, e := ranges.Begin(g, p, vs, tape)
	errno(t, "Begin", e, api.OK)
	_, e = r.Middle(y, z)
	errno(t, "Middle", e, api.OK)
	w, e := r.Finish(x)
	errno(t, "Finish", e, api.OK)
	return v, w
}

// match: the simulator's tape must be the one that the document's words tell, and the view by it the prover's.
func match[P msm.Group[P]](t *testing.T, m *sample.Maker, kind sample.Kind[P], w world, k secret, a asked) {
	t.Helper()
	g, vs, tape := setOf(m, kind, w), openingsOf(m, k), proverTape(m, k)
	y, z, x := m.Limbs(a.y), m.Limbs(a.z), m.Limbs(a.x)
	said := w.said(k, a)
	made, e := ideal.Match(g, w.p, vs, y, z, x, tape)
	errno(t, "Match", e, api.OK)
	isMade(t, "Match", kind, made, matched(said))

	v, want := proverView(t, g, w.p, vs, y, z, x, tape)
	got, e := ideal.Simulate(g, w.p, v, y, z, x, made)
	errno(t, "Simulate", e, api.OK)
	if !sameViews(got, want) {
		t.Fatalf("over %s: the simulator says %v, the prover %v", kind.Name, got, want)
	}
	isView(t, "Simulate", kind, got, said, a)
	errno(t, "Accepts", ranges.Accepts(g, w.p, v, got), api.OK)
}

func matchOver[P msm.Group[P]](t *testing.T, m *sample.Maker, kind sample.Kind[P], list []api.Params) {
	t.Helper()
	for _, p := range list {
		match(t, m, kind, anyWorld(m, kind, p), anySecret(m, p), anyAsked(m))
	}
}

func TestP1602P1605Tapes(t *testing.T) {
	t.Parallel()
	m := sample.Maker(1602)
	for range 4 {
		matchOver(t, &m, sample.Lines(), allParams(64))
		matchOver(t, &m, sample.Frees(), allParams(16))
		matchOver(t, &m, sample.Boxes(), allParams(16))
	}
	matchOver(t, &m, sample.Lines(), allParams(api.MaxSize))
	matchOver(t, &m, sample.Frees(), []api.Params{{Bits: 64, Count: 1}, {Bits: 4, Count: 16}})
	matchOver(t, &m, sample.Points(), allParams(8))
	matchOver(t, &m, sample.Points(), []api.Params{{Bits: 64, Count: 1}})
}

// edgeSecrets: values at both ends of their range, with tapes of zeros and without.
func edgeSecrets(m *sample.Maker, p api.Params) []secret {
	none := new(big.Int)
	var list []secret
	for _, v := range []uint64{0, 1, uint64(1)<<p.Bits - 1} {
		k := anySecret(m, p)
		for j := range k.vs {
			k.vs[j] = v
		}
		zero := secret{vs: k.vs, blinds: k.blinds, alpha: none, rho: none, tau1: none, tau2: none, sL: someZeros(p.Size()), sR: someZeros(p.Size())}
		bare := zero
		bare.blinds = someZeros(p.Count)
		list = append(list, k, zero, bare)
	}
	return list
}

func TestP1602P1605Edges(t *testing.T) {
	t.Parallel()
	m := sample.Maker(16020)
	one, far := big.NewInt(1), sample.Mod(big.NewInt(-1))
	for _, p := range allParams(8) {
		for _, k := range edgeSecrets(&m, p) {
			for _, a := range []asked{{one, one, one}, {far, one, far}, {one, far, one}, anyAsked(&m)} {
				match(t, &m, sample.Lines(), anyWorld(&m, sample.Lines(), p), k, a)
				match(t, &m, sample.Frees(), basis(p), k, a)
			}
		}
	}
	for _, p := range []api.Params{{Bits: 64, Count: 1}, {Bits: 64, Count: 2}, {Bits: 32, Count: 2}} {
		for _, k := range edgeSecrets(&m, p) {
			match(t, &m, sample.Lines(), anyWorld(&m, sample.Lines(), p), k, anyAsked(&m))
		}
	}
}

// Over the standard generators the two views are the same to the byte.
func TestP1605Points(t *testing.T) {
	t.Parallel()
	m := sample.Maker(1605)
	for _, p := range []api.Params{{Bits: 1, Count: 1}, {Bits: 8, Count: 2}, {Bits: 64, Count: 1}} {
		g, _ := gens.Standard(p.Size())
		k, a := anySecret(&m, p), anyAsked(&m)
		vs, tape, y, z, x := openingsOf(&m, k), proverTape(&m, k), m.Limbs(a.y), m.Limbs(a.z), m.Limbs(a.x)
		v, want := proverView(t, g, p, vs, y, z, x, tape)
		made, e := ideal.Match(g, p, vs, y, z, x, tape)
		errno(t, "Match", e, api.OK)
		got, e := ideal.Simulate(g, p, v, y, z, x, made)
		errno(t, "Simulate", e, api.OK)
		if !sameViews(got, want) || got.A.Encode() != want.A.Encode() || got.S.Encode() != want.S.Encode() || got.T1.Encode() != want.T1.Encode() || got.T2.Encode() != want.T2.Encode() {
			t.Errorf("%v: the simulator says %v, the prover %v", p, got, want)
		}
	}
}
