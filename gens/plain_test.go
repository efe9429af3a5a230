package gens_test

import (
	"bytes"
	"math/big"
	"slices"
	"testing"

	"veil/api"
	"veil/gens"
	"veil/msm"
	"veil/sample"
	"veil/scalar"
)

// seeds: of many lengths, those at which a hash's block is full among them.
func seeds(m *sample.Maker) [][]byte {
	list := [][]byte{nil, {}, {0}, {0, 0}, []byte("x"), []byte("y")}
	for _, n := range []int{8, 9, 31, 64, 92, 93, 94, 109, 110, 111, 128, 1000} {
		list = append(list, m.Bytes(n))
	}
	return list
}

func TestP903Lines(t *testing.T) {
	m := sample.Maker(903)
	for _, seed := range seeds(&m) {
		for _, n := range []int{0, 1, 2, 33} {
			s, e := gens.Lines(seed, n)
			if e != api.OK {
				t.Fatalf("Lines of %d: %d", n, e)
			}
			isSet(t, "Lines", s, n, func(kind, i int) msm.Line { return msm.Line{K: logOf(seed, kind, i)} })
			for _, a := range gens.All(s) {
				if a.K != a.K.Least() {
					t.Errorf("Lines: limbs %v", a.K)
				}
			}
		}
	}
}

func TestP903ManyLines(t *testing.T) {
	for _, n := range []int{1023, 1024} {
		s, e := gens.Lines([]byte("many"), n)
		if e != api.OK {
			t.Fatalf("Lines of %d: %d", n, e)
		}
		isSet(t, "Lines", s, n, func(kind, i int) msm.Line { return msm.Line{K: logOf([]byte("many"), kind, i)} })
		seen := map[scalar.Scalar]int{}
		for _, a := range gens.All(s) {
			seen[a.K]++
		}
		if len(seen) != 3+2*n {
			t.Errorf("Lines of %d: %d unlike elements", n, len(seen))
		}
	}
}

func TestP903LinesOfWrongSizes(t *testing.T) {
	for _, n := range wrongSizes(api.MaxSize) {
		for _, seed := range [][]byte{nil, []byte("x")} {
			s, e := gens.Lines(seed, n)
			nothing(t, "Lines", s, e, api.ErrArg)
		}
	}
}

// Every seed has lines of its own: none is told by another seed's, nor by the one before.
func TestP903LinesHangOnTheSeed(t *testing.T) {
	m := sample.Maker(9030)
	all := seeds(&m)[1:]
	seen := map[scalar.Scalar][]byte{}
	for range 2 {
		for _, seed := range all {
			s, _ := gens.Lines(seed, 2)
			for _, a := range gens.All(s) {
				if other, ok := seen[a.K]; ok && !bytes.Equal(other, seed) {
					t.Errorf("an element of the seeds %x and %x", seed, other)
				}
				seen[a.K] = seed
			}
		}
	}
}

func TestP903Basis(t *testing.T) {
	for n := range api.MaxBasis + 1 {
		s, e := gens.Basis(n)
		if e != api.OK || len(s.G) != n || len(s.H) != n {
			t.Fatalf("Basis(%d): %d, with %d of G and %d of H", n, e, len(s.G), len(s.H))
		}
		for j, a := range slices.Concat([]msm.Free{s.B, s.Blind, s.Q}, s.G, s.H) {
			want := append(make([]scalar.Scalar, j), scalar.Int(1))
			if !slices.Equal(a.K, want) {
				t.Errorf("Basis(%d): in place %d: %v", n, j, a.K)
			}
		}
	}
}

func TestP903BasisOfWrongSizes(t *testing.T) {
	for _, n := range append(wrongSizes(api.MaxBasis), 66, 100, 1023, 1024, 1025) {
		s, e := gens.Basis(n)
		nothing(t, "Basis", s, e, api.ErrArg)
	}
}

// Of a sum of multiples the multiples can be read off: so no two lists of them have the same sum.
func TestP903BasisHasNoRelation(t *testing.T) {
	m := sample.Maker(90300)
	for _, n := range []int{0, 1, 2, 7, 64} {
		s, _ := gens.Basis(n)
		ns, ks := list(&m, 3+2*n)
		ns[len(ns)-1], ks[len(ks)-1] = big.NewInt(5), scalar.Int(5)
		terms, _ := msm.Zip(ks, gens.All(s))
		sum := msm.Plain(terms...)
		if got := sample.Frees().To(sum); len(got) != len(ns) || !got.Same(ns) {
			t.Errorf("over Basis(%d): multiples by %v are %v", n, ns, got)
		}
	}
}
