package sigma_test

import (
	"testing"

	"veil/api"
	"veil/gens"
	"veil/msm"
	"veil/sample"
	"veil/scalar"
	"veil/sigma"
)

// isClaim: a claim must have these rows and images.
func isClaim[P msm.Group[P]](t *testing.T, what string, c sigma.Claim[P], rows [][]P, images []P) {
	t.Helper()
	same := func(got, want []P) bool {
		if len(got) != len(want) {
			return false
		}
		for i, p := range got {
			if !p.Same(want[i]) {
				return false
			}
		}
		return true
	}
	ok := len(c.Rows) == len(rows) && same(c.Images, images)
	for i := range min(len(c.Rows), len(rows)) {
		ok = ok && same(c.Rows[i], rows[i])
	}
	if !ok {
		t.Errorf("%s: %v", what, c)
	}
}

func claimsOver[P msm.Group[P]](t *testing.T, m *sample.Maker, kind sample.Kind[P]) {
	t.Helper()
	var neutral P
	next := func() P { return kind.Of(m, kind.Any(m)) }
	for range 10 {
		s := gens.Set[P]{B: next(), Blind: next(), Q: next(), G: []P{next()}, H: []P{next()}}
		a, b := next(), next()
		isClaim(t, "Key over "+kind.Name, sigma.Key(a, b), [][]P{{a}}, []P{b})
		isClaim(t, "Opening over "+kind.Name, sigma.Opening(s, a), [][]P{{s.B, s.Blind}}, []P{a})
		isClaim(t, "Equal over "+kind.Name, sigma.Equal(s, a, b), [][]P{{s.B, s.Blind, neutral}, {s.B, neutral, s.Blind}}, []P{a, b})
	}
}

func TestP1107Claims(t *testing.T) {
	m := sample.Maker(1107)
	claimsOver(t, &m, sample.Lines())
	claimsOver(t, &m, sample.Frees())
	claimsOver(t, &m, sample.Boxes())
	claimsOver(t, &m, sample.Points())
}

// commitmentsOver: what is claimed of commitments holds just with their openings, over sets without a relation.
func commitmentsOver[P msm.Group[P]](t *testing.T, s gens.Set[P]) {
	t.Helper()
	m := sample.Maker(11070)
	v, f, g := m.Limbs(m.Number()), m.Limbs(m.Number()), m.Limbs(m.Number())
	one := scalar.Int(1)
	a, b := gens.Commit(s, v, f), gens.Commit(s, v, g)
	holds := func(what string, c sigma.Claim[P], want api.Errno, xs ...scalar.Scalar) {
		t.Helper()
		errno(t, what, sigma.Holds(c, xs), want)
	}
	holds("Opening", sigma.Opening(s, a), api.OK, v, f)
	holds("Opening of another value", sigma.Opening(s, a), api.ErrWitness, v.Add(one), f)
	holds("Opening of another blinding", sigma.Opening(s, a), api.ErrWitness, v, f.Add(one))
	holds("Equal", sigma.Equal(s, a, b), api.OK, v, f, g)
	holds("Equal of another value", sigma.Equal(s, a, b), api.ErrWitness, v.Add(one), f, g)
	holds("Equal of another first blinding", sigma.Equal(s, a, b), api.ErrWitness, v, f.Add(one), g)
	holds("Equal of another second blinding", sigma.Equal(s, a, b), api.ErrWitness, v, f, g.Add(one))
	holds("Equal of unlike values", sigma.Equal(s, a, gens.Commit(s, v.Add(one), g)), api.ErrWitness, v, f, g)
	holds("Key", sigma.Key(s.Blind, s.Blind.Times(f)), api.OK, f)
	holds("Key of another", sigma.Key(s.Blind, s.Blind.Times(f)), api.ErrWitness, f.Add(one))
}

func TestP1107Commitments(t *testing.T) {
	standard, _ := gens.Standard(0)
	basis, _ := gens.Basis(0)
	lines, _ := gens.Lines([]byte("claims"), 0)
	commitmentsOver(t, standard)
	commitmentsOver(t, basis)
	commitmentsOver(t, lines)
}
