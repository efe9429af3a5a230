package party_test

// P1408: the proof of parties and dealer is the single prover's, by hand and by Together.

import (
	"slices"
	"testing"

	"veil/api"
	"veil/gens"
	"veil/msm"
	"veil/party"
	"veil/ranges"
	"veil/sample"
	"veil/scalar"
	"veil/transcript"
	"veil/wire"
)

// alone: what the single prover makes, and what it says.
func alone[P msm.Group[P]](t *testing.T, g gens.Set[P], p api.Params, vs []ranges.Opening, tapes []ranges.Tape, o *oracle) ([]P, wire.Proof[P]) {
	t.Helper()
	whole, e := party.Whole(p, tapes...)
	errno(t, "Whole", e, api.OK)
	v, x, e := ranges.Prove(g, p, vs, whole, o)
	errno(t, "ranges.Prove", e, api.OK)
	return v, x
}

// sameProofs: the same commitments, and byte for byte the same proof.
func sameProofs[P msm.Group[P]](t *testing.T, what string, v []P, x wire.Proof[P], v2 []P, x2 wire.Proof[P]) {
	t.Helper()
	one, e := wire.EncodeProof(x)
	errno(t, what, e, api.OK)
	two, e := wire.EncodeProof(x2)
	errno(t, what, e, api.OK)
	if !slices.Equal(one, two) {
		t.Errorf("%s: the proofs are unlike", what)
	}
	if !slices.EqualFunc(v, v2, P.Same) {
		t.Errorf("%s: the commitments are unlike", what)
	}
	for _, k := range []scalar.Scalar{x.TauX, x.Mu, x.That, x.Ea, x.Eb} {
		if k != k.Least() {
			t.Errorf("%s: a scalar is not told by its least limbs", what)
		}
	}
}

// accepted: by all verifiers, whose Oracles answer as the dealer's.
func accepted[P msm.Group[P]](t *testing.T, what string, g gens.Set[P], p api.Params, v []P, x wire.Proof[P], oracle func() transcript.Oracle) {
	t.Helper()
	errno(t, what+": Rounds", ranges.Rounds(g, p, v, x, oracle()), api.OK)
	if yes, _ := ranges.Once(g, p, v, x, oracle()); !yes {
		t.Errorf("%s: Once: false", what)
	}
}

// parties: at all places, and their Bits.
func parties[P msm.Group[P]](t *testing.T, g gens.Set[P], p api.Params, vs []ranges.Opening, tapes []ranges.Tape) (all []*party.Party[P], bits []party.Bit[P]) {
	t.Helper()
	for j := range p.Count {
		q, b, e := party.Join(g, p, j, vs[j], tapes[j])
		errno(t, "Join", e, api.OK)
		all, bits = append(all, q), append(bits, b)
	}
	return all, bits
}

// byHand: parties and dealer, message by message, in any order.
func byHand[P msm.Group[P]](t *testing.T, m *sample.Maker, g gens.Set[P], p api.Params, vs []ranges.Opening, tapes []ranges.Tape, o transcript.Oracle) ([]P, wire.Proof[P], api.Errno) {
	t.Helper()
	d, e := party.NewDealer(g, p, o)
	errno(t, "NewDealer", e, api.OK)
	all, bits := parties(t, g, p, vs, tapes)
	y, z, e := d.Bits(mixed(m, bits)...)
	if e != api.OK {
		return nil, wire.Proof[P]{}, e
	}
	var polys []party.Poly[P]
	for _, q := range all {
		poly, e := q.Poly(y, z)
		errno(t, "Poly", e, api.OK)
		polys = append(polys, poly)
	}
	x, e := d.Polys(mixed(m, polys)...)
	if e != api.OK {
		return nil, wire.Proof[P]{}, e
	}
	var shares []party.Share
	for _, q := range all {
		share, e := q.Share(x)
		errno(t, "Share", e, api.OK)
		shares = append(shares, share)
	}
	v, proof, places, e := d.Shares(mixed(m, shares)...)
	if len(places) != 0 {
		t.Errorf("Shares: the places %v", places)
	}
	return v, proof, e
}

func oneProofOver[P msm.Group[P]](t *testing.T, m *sample.Maker, kind sample.Kind[P], list []api.Params) {
	t.Helper()
	for _, p := range list {
		w, ks, a := anyWorld(m, kind, p), anySecrets(m, p), anyAsked(m, p)
		g := setOf(m, kind, w)
		vs, tapes := handed(m, ks)
		single := answering(m, a)
		v, x := alone(t, g, p, vs, tapes, single)

		o := answering(m, a)
		v2, x2, e := byHand(t, m, g, p, vs, tapes, o)
		errno(t, "by hand, over "+kind.Name, e, api.OK)
		sameProofs(t, "by hand, over "+kind.Name, v2, x2, v, x)
		heard(t, "by hand, over "+kind.Name, o.heard, single.heard)
		accepted(t, "by hand, over "+kind.Name, g, p, v2, x2, func() transcript.Oracle { return answering(m, a) })

		o = answering(m, a)
		v3, x3, e := party.Together(g, p, vs, tapes, o)
		errno(t, "Together over "+kind.Name, e, api.OK)
		sameProofs(t, "Together over "+kind.Name, v3, x3, v, x)
		heard(t, "Together over "+kind.Name, o.heard, single.heard)
		accepted(t, "Together over "+kind.Name, g, p, v3, x3, func() transcript.Oracle { return answering(m, a) })
	}
}

func TestP1408OneProof(t *testing.T) {
	t.Parallel()
	m := sample.Maker(1408)
	for range 2 {
		oneProofOver(t, &m, sample.Lines(), allParams(64))
		oneProofOver(t, &m, sample.Frees(), allParams(16))
		oneProofOver(t, &m, sample.Boxes(), allParams(16))
	}
	oneProofOver(t, &m, sample.Lines(), []api.Params{{Bits: 8, Count: 16}, {Bits: 64, Count: 16}})
	oneProofOver(t, &m, sample.Points(), allParams(4))
}

// Over the standard generators, with transcripts: in bytes.
func TestP1408StandardGenerators(t *testing.T) {
	t.Parallel()
	m := sample.Maker(14080)
	for _, p := range []api.Params{{Bits: 1, Count: 1}, {Bits: 4, Count: 2}, {Bits: 64, Count: 1}, {Bits: 1, Count: 16}, {Bits: 64, Count: 16}} {
		g, _ := gens.Standard(p.Size())
		vs, tapes := handed(&m, anySecrets(&m, p))
		whole, _ := party.Whole(p, tapes...)
		v, x, e := ranges.Prove(g, p, vs, whole, transcript.New("one"))
		errno(t, "ranges.Prove", e, api.OK)
		v2, x2, e := byHand(t, &m, g, p, vs, tapes, transcript.New("one"))
		errno(t, "by hand", e, api.OK)
		sameProofs(t, "by hand", v2, x2, v, x)
		v3, x3, e := party.Together(g, p, vs, tapes, transcript.New("one"))
		errno(t, "Together", e, api.OK)
		sameProofs(t, "Together", v3, x3, v, x)

		sent, _ := wire.EncodeProof(x3)
		bytes := ranges.Commit(vs...)
		if !ranges.VerifyBytes(p, "one", bytes, sent) || ranges.Explain(p, "one", bytes, sent) != api.OK {
			t.Errorf("%v: the parties' proof is not accepted in bytes", p)
		}
		if ranges.VerifyBytes(p, "two", bytes, sent) {
			t.Errorf("%v: the parties' proof is accepted under another label", p)
		}
	}
}
