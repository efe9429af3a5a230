package msm_test

// What the tests of this package count in, and what they hold the answers against: lists of numbers of math/big, modulo l, one for each place of a Free element, one alone for the other groups.

import (
	"math/big"
	"testing"

	"veil/api"
	"veil/group"
	"veil/msm"
	"veil/sample"
)

type numbers = sample.Numbers

// kind: a group, and how its elements stand for numbers.
type kind[P msm.Group[P]] struct{ sample.Kind[P] }

func lines() kind[msm.Line]     { return kind[msm.Line]{sample.Lines()} }
func frees() kind[msm.Free]     { return kind[msm.Free]{sample.Frees()} }
func boxes() kind[*sample.Box]  { return kind[*sample.Box]{sample.Boxes()} }
func points() kind[group.Point] { return kind[group.Point]{sample.Points()} }

// sums: terms, and the numbers that their sum stands for.
type sums[P any] struct {
	terms []msm.Term[P]
	want  numbers
}

// terms: so many, any of them.
func (k kind[P]) terms(m *sample.Maker, count int) sums[P] {
	c := sums[P]{}
	for range count {
		c = k.more(m, c, m.Number(), k.Any(m))
	}
	return c
}

// more: the terms, and one behind them.
func (k kind[P]) more(m *sample.Maker, c sums[P], times *big.Int, ns numbers) sums[P] {
	term := msm.Term[P]{K: m.Limbs(times), P: k.Of(m, ns)}
	return sums[P]{append(c.terms, term), c.want.Plus(ns.Times(times))}
}

// one: an element must stand for these numbers.
func (k kind[P]) one(t *testing.T, what string, got P, want numbers) {
	t.Helper()
	if !k.Is(got, want) {
		t.Errorf("%s, over %s: %v, want %v", what, k.Name, k.To(got), want)
	}
}

// refused: an answer must be this error, and nothing beside it.
func (k kind[P]) refused(t *testing.T, what string, got P, c msm.Cost, e, want api.Errno) {
	t.Helper()
	var neutral P
	if e != want || !got.Same(neutral) || c != (msm.Cost{}) {
		t.Errorf("%s, over %s: %v, cost %v, error %d, want error %d alone", what, k.Name, got, c, e, want)
	}
}

// strausMost, pippengerMost: what the chapter allows them.
func digits(w int) int { return (256+w-1)/w + 1 }

func strausMost(n, w int) int {
	if n == 0 {
		return 0
	}
	return n*(1<<w+digits(w)) + w*digits(w)
}

func pippengerMost(n, w int) int {
	if n == 0 {
		return 0
	}
	return digits(w) * (n + 1<<(w+1) + w + 1)
}
