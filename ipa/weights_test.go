package ipa_test

import (
	"math/big"
	"testing"

	"veil/api"
	"veil/ipa"
	"veil/msm"
	"veil/sample"
)

// weight: the product over all rounds, bit by bit as the words say it.
func weight(us numbers, i int) *big.Int {
	k := len(us)
	product := big.NewInt(1)
	for t := 1; t <= k; t++ {
		if i>>(k-t)&1 == 1 {
			product = times(product, us[t-1])
		} else {
			product = times(product, inverse(us[t-1]))
		}
	}
	return product
}

func TestP1205Weights(t *testing.T) {
	m := sample.Maker(1205)
	for range 3 {
		for count := range 11 {
			us := chances(&m, count)
			want := make(numbers, 1<<count)
			for i := range want {
				want[i] = weight(us, i)
			}
			got, e := ipa.Weights(limbs(&m, us))
			errno(t, "Weights", e, api.OK)
			told(t, "Weights", got, want)
		}
	}
}

// Folding G along all rounds gives its sum by the weights, folding H its sum by their inverses.
func foldedByWeights[P msm.Group[P]](t *testing.T, m *sample.Maker, kind sample.Kind[P], sizes []int) {
	t.Helper()
	for _, size := range sizes {
		count := roundsOf(size)
		s, us := anyStated(m, kind, size), limbs(m, chances(m, count))
		weights, e := ipa.Weights(us)
		errno(t, "Weights", e, api.OK)
		var last ipa.Statement[P]
		for now := range ipa.Rounds(statement(m, kind, s), argument(m, kind, anyArgued(m, kind, count)), us) {
			last = now
		}
		ws, vs := make(numbers, size), make(numbers, size)
		for i, w := range weights {
			ws[i] = sample.NumberOf(w)
			vs[i] = inverse(ws[i])
		}
		are(t, "G folded", kind, last.G, summed(ws, s.g))
		are(t, "H folded", kind, last.H, summed(vs, s.h))
	}
}

func TestP1208WeightsOfTheFolds(t *testing.T) {
	m := sample.Maker(1208)
	for range 3 {
		foldedByWeights(t, &m, sample.Lines(), sizes(64))
		foldedByWeights(t, &m, sample.Frees(), sizes(64))
		foldedByWeights(t, &m, sample.Boxes(), sizes(64))
	}
	foldedByWeights(t, &m, sample.Lines(), []int{1024})
	foldedByWeights(t, &m, sample.Points(), sizes(8))
}
