package gens_test

// What the tests of this package hold the answers against: the library's SHA-512, and numbers of math/big for what elements stand for.

import (
	"crypto/sha512"
	"encoding/binary"
	"slices"
	"testing"

	"veil/api"
	"veil/gens"
	"veil/group"
	"veil/msm"
	"veil/sample"
	"veil/scalar"
)

// seedOf: the seed bytes of a kind and a number.
func seedOf(kind, i int) []byte {
	return binary.LittleEndian.AppendUint64([]byte{byte(kind)}, uint64(i))
}

// derived: the standard generator of a kind and a number.
func derived(kind, i int) group.Point {
	if kind == api.GenBase {
		return group.Base()
	}
	return group.Map(sha512.Sum512(slices.Concat([]byte("veil generator"), seedOf(kind, i))))
}

// logOf: the number of the Line of a seed, a kind and a number.
func logOf(seed []byte, kind, i int) scalar.Scalar {
	sum := sha512.Sum512(slices.Concat([]byte("veil line"), seedOf(kind, i), seed))
	return sample.Scalar(sample.Number(sum[:]))
}

// isSet: a set must hold what is told of each kind and number, and n of G and of H.
func isSet[P msm.Group[P]](t *testing.T, what string, s gens.Set[P], n int, want func(kind, i int) P) {
	t.Helper()
	if len(s.G) != n || len(s.H) != n {
		t.Fatalf("%s: %d of G and %d of H, want %d", what, len(s.G), len(s.H), n)
	}
	one := func(kind, i int, got P) {
		t.Helper()
		if !got.Same(want(kind, i)) || got.Encode() != want(kind, i).Encode() {
			t.Errorf("%s: kind %d, number %d: %v, want %v", what, kind, i, got, want(kind, i))
		}
	}
	one(api.GenBase, 0, s.B)
	one(api.GenBlind, 0, s.Blind)
	one(api.GenInner, 0, s.Q)
	for i := range n {
		one(api.GenLeft, i, s.G[i])
		one(api.GenRight, i, s.H[i])
	}
}

// nothing: what comes beside an error must be the zero set.
func nothing[P msm.Group[P]](t *testing.T, what string, s gens.Set[P], e, want api.Errno) {
	t.Helper()
	var none P
	if e != want || !s.B.Same(none) || !s.Blind.Same(none) || !s.Q.Same(none) || len(s.G) != 0 || len(s.H) != 0 {
		t.Errorf("%s: %v, error %d, want error %d alone", what, s, e, want)
	}
}

type numbers = sample.Numbers

// hand: a set made by hand, and what its elements stand for.
type hand[P msm.Group[P]] struct {
	kind        sample.Kind[P]
	set         gens.Set[P]
	b, blind, q numbers
	g, h        []numbers
}

// byHand: a set with any elements, so many of G and of H.
func byHand[P msm.Group[P]](m *sample.Maker, kind sample.Kind[P], left, right int) hand[P] {
	s := hand[P]{kind: kind, b: kind.Any(m), blind: kind.Any(m), q: kind.Any(m)}
	s.set = gens.Set[P]{B: kind.Of(m, s.b), Blind: kind.Of(m, s.blind), Q: kind.Of(m, s.q)}
	for range left {
		s.g = append(s.g, kind.Any(m))
		s.set.G = append(s.set.G, kind.Of(m, s.g[len(s.g)-1]))
	}
	for range right {
		s.h = append(s.h, kind.Any(m))
		s.set.H = append(s.set.H, kind.Of(m, s.h[len(s.h)-1]))
	}
	return s
}

// is: an element must stand for these numbers.
func (s hand[P]) is(t *testing.T, what string, got P, want numbers) {
	t.Helper()
	if !s.kind.Is(got, want) {
		t.Errorf("%s, over %s: %v, want %v", what, s.kind.Name, s.kind.To(got), want)
	}
}

// list: so many numbers, and scalars that stand for them, by any of their limbs.
func list(m *sample.Maker, count int) (numbers, []scalar.Scalar) {
	var ns numbers
	var ks []scalar.Scalar
	for range count {
		n := m.Number()
		ns, ks = append(ns, n), append(ks, m.Limbs(n))
	}
	return ns, ks
}
