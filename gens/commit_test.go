package gens_test

import (
	"math/big"
	"testing"

	"veil/api"
	"veil/gens"
	"veil/group"
	"veil/msm"
	"veil/sample"
	"veil/scalar"
)

// edges: numbers at the ends of the scalars, and some between.
func edges(m *sample.Maker) numbers {
	list := append(sample.Small(0, 1, 2, -1, -2), sample.Mod(sample.Power2(252)), sample.Mod(sample.Power2(64)))
	return append(list, m.Number(), m.Number(), m.Number())
}

func commitsOver[P msm.Group[P]](t *testing.T, kind sample.Kind[P]) {
	t.Helper()
	m := sample.Maker(905)
	for range 3 {
		s := byHand(&m, kind, 2, 2)
		for _, v := range edges(&m) {
			for _, f := range edges(&m) {
				got := gens.Commit(s.set, m.Limbs(v), m.Limbs(f))
				s.is(t, "Commit", got, s.b.Times(v).Plus(s.blind.Times(f)))
			}
		}
	}
}

func TestP905Commit(t *testing.T) {
	commitsOver(t, sample.Lines())
	commitsOver(t, sample.Frees())
	commitsOver(t, sample.Boxes())
	commitsOver(t, sample.Points())
}

// weighed: the sum of the elements' multiples, and of those of the one for blindings.
func (s hand[P]) weighed(a, b numbers, f *big.Int) numbers {
	sum := s.blind.Times(f)
	for i, n := range a {
		sum = sum.Plus(s.g[i].Times(n))
	}
	for i, n := range b {
		sum = sum.Plus(s.h[i].Times(n))
	}
	return sum
}

// vectorsOf: commitments to lists of all lengths up to some behind those of the set.
func vectorsOf[P msm.Group[P]](t *testing.T, m *sample.Maker, s hand[P]) {
	t.Helper()
	for left := range len(s.g) + 3 {
		for right := range len(s.h) + 3 {
			a, as := list(m, left)
			b, bs := list(m, right)
			f := m.Number()
			got, e := gens.CommitVectors(s.set, as, bs, m.Limbs(f))
			if left > len(s.g) || right > len(s.h) {
				refused(t, "CommitVectors", got, e)
				continue
			}
			if e != api.OK {
				t.Errorf("CommitVectors of %d and %d, over %s: %d", left, right, s.kind.Name, e)
			}
			s.is(t, "CommitVectors", got, s.weighed(a, b, f))
		}
	}
}

// refused: an answer must be ErrLength, and nothing beside it.
func refused[P msm.Group[P]](t *testing.T, what string, got P, e api.Errno) {
	t.Helper()
	var none P
	if e != api.ErrLength || !got.Same(none) {
		t.Errorf("%s: %v, error %d, want ErrLength alone", what, got, e)
	}
}

func vectorsOver[P msm.Group[P]](t *testing.T, kind sample.Kind[P], sizes ...[2]int) {
	t.Helper()
	m := sample.Maker(9050)
	for _, c := range sizes {
		vectorsOf(t, &m, byHand(&m, kind, c[0], c[1]))
	}
}

func TestP905CommitVectors(t *testing.T) {
	sizes := [][2]int{{0, 0}, {1, 0}, {0, 1}, {1, 1}, {2, 3}, {4, 1}, {5, 5}}
	vectorsOver(t, sample.Lines(), sizes...)
	vectorsOver(t, sample.Frees(), sizes...)
	vectorsOver(t, sample.Boxes(), sizes...)
	vectorsOver(t, sample.Points(), sizes[3:5]...)
}

// As many scalars as the greatest sets have elements, and more than such sets have.
func TestP905LongLists(t *testing.T) {
	m := sample.Maker(90500)
	for _, count := range []int{1023, 1024, 5000} {
		s := byHand(&m, sample.Lines(), count, count)
		a, as := list(&m, count)
		b, bs := list(&m, count)
		got, e := gens.CommitVectors(s.set, as, bs, scalar.Int(9))
		if e != api.OK {
			t.Errorf("CommitVectors of %d: %d", count, e)
		}
		s.is(t, "CommitVectors", got, s.weighed(a, b, big.NewInt(9)))
		_, more := list(&m, count+1)
		got, e = gens.CommitVectors(s.set, more, nil, scalar.Int(9))
		refused(t, "CommitVectors of too many in a", got, e)
		got, e = gens.CommitVectors(s.set, bs, more, scalar.Int(9))
		refused(t, "CommitVectors of too many in b", got, e)
	}
}

// Over the standard generators, whose logarithms nobody knows: each multiple by itself.
func TestP905Standard(t *testing.T) {
	m := sample.Maker(905000)
	s, _ := gens.Standard(8)
	_, as := list(&m, 8)
	_, bs := list(&m, 6)
	f := m.Limbs(m.Number())
	sum := s.Blind.Times(f)
	for i, k := range as {
		sum = sum.Add(s.G[i].Times(k))
	}
	for i, k := range bs {
		sum = sum.Add(s.H[i].Times(k))
	}
	if got, e := gens.CommitVectors(s, as, bs, f); e != api.OK || got.Encode() != sum.Encode() {
		t.Errorf("CommitVectors over Standard: %x, %d, want %x", got.Encode(), e, sum.Encode())
	}
	want := group.Sum(s.B.Times(as[0]), s.Blind.Times(f))
	if got := gens.Commit(s, as[0], f); got.Encode() != want.Encode() {
		t.Errorf("Commit over Standard: %x, want %x", got.Encode(), want.Encode())
	}
}

// What is not asked for is not looked at: Commit takes sets without G and H, CommitVectors never takes B or Q.
func TestP905OtherGenerators(t *testing.T) {
	one := msm.Line{K: scalar.Int(1)}
	bare := gens.Set[msm.Line]{B: one, Blind: one}
	if got := gens.Commit(bare, scalar.Int(3), scalar.Int(4)); !got.Same(msm.Line{K: scalar.Int(7)}) {
		t.Errorf("Commit without G and H: %v", got)
	}
	others := gens.Set[msm.Line]{B: one, Q: one}
	if got, e := gens.CommitVectors(others, nil, nil, scalar.Int(4)); e != api.OK || !got.Same(msm.Line{}) {
		t.Errorf("CommitVectors of nothing over a neutral Blind: %v, %d", got, e)
	}
}

// sums: a list of scalars is the sum of two others, place by place.
func sums(a, b []scalar.Scalar) []scalar.Scalar {
	list := make([]scalar.Scalar, max(len(a), len(b)))
	for i := range list {
		if i < len(a) {
			list[i] = list[i].Add(a[i])
		}
		if i < len(b) {
			list[i] = list[i].Add(b[i])
		}
	}
	return list
}

// products: each scalar, k times.
func products(k scalar.Scalar, a []scalar.Scalar) []scalar.Scalar {
	list := make([]scalar.Scalar, len(a))
	for i := range list {
		list[i] = k.Mul(a[i])
	}
	return list
}

// addUp: commitments over a set with at least 4 of G and of H.
func addUp[P msm.Group[P]](t *testing.T, what string, s gens.Set[P]) {
	t.Helper()
	m := sample.Maker(906)
	any := func() scalar.Scalar { return m.Limbs(m.Number()) }
	lists := func() []scalar.Scalar {
		_, ks := list(&m, int(m.Next()%5))
		return ks
	}
	vectors := func(a, b []scalar.Scalar, f scalar.Scalar) P {
		c, e := gens.CommitVectors(s, a, b, f)
		if e != api.OK {
			t.Errorf("over %s: CommitVectors of %d and %d: %d", what, len(a), len(b), e)
		}
		return c
	}
	for range 6 {
		v, w, f, g, k := any(), any(), any(), any(), any()
		one, two := gens.Commit(s, v, f), gens.Commit(s, w, g)
		if !gens.Commit(s, v.Add(w), f.Add(g)).Same(one.Add(two)) || !one.Times(k).Same(gens.Commit(s, k.Mul(v), k.Mul(f))) {
			t.Errorf("over %s: commitments to values do not add up", what)
		}
		a, b, c, d := lists(), lists(), lists(), lists()
		one, two = vectors(a, b, f), vectors(c, d, g)
		if !vectors(sums(a, c), sums(b, d), f.Add(g)).Same(one.Add(two)) || !one.Times(k).Same(vectors(products(k, a), products(k, b), k.Mul(f))) {
			t.Errorf("over %s: commitments to lists do not add up", what)
		}
		longer := append(products(scalar.Int(1), a), make([]scalar.Scalar, 4-len(a))...)
		if !vectors(longer, b, f).Same(one) {
			t.Errorf("over %s: zeros behind a list change the commitment", what)
		}
	}
}

func TestP906CommitmentsAddUp(t *testing.T) {
	m := sample.Maker(9060)
	standard, _ := gens.Standard(4)
	lines, _ := gens.Lines([]byte("add"), 4)
	basis, _ := gens.Basis(4)
	addUp(t, "Standard", standard)
	addUp(t, "Lines", lines)
	addUp(t, "Basis", basis)
	for range 3 {
		addUp(t, "Lines by hand", byHand(&m, sample.Lines(), 5, 4).set)
		addUp(t, "Free by hand", byHand(&m, sample.Frees(), 4, 6).set)
		addUp(t, "a group of the test's own", byHand(&m, sample.Boxes(), 4, 4).set)
	}
}

func TestP907WhatCommitmentsSay(t *testing.T) {
	m := sample.Maker(907)
	s, _ := gens.Basis(1)
	all := edges(&m)
	for _, v := range all {
		for _, f := range all {
			one := gens.Commit(s, m.Limbs(v), m.Limbs(f))
			for _, w := range all {
				for _, g := range all {
					two := gens.Commit(s, m.Limbs(w), m.Limbs(g))
					if one.Same(two) != (v.Cmp(w) == 0 && f.Cmp(g) == 0) {
						t.Errorf("over Basis: commitments to (%v, %v) and (%v, %v)", v, f, w, g)
					}
				}
			}
		}
	}
}

// shortLists: all lists of up to 3 of the numbers 0, 1 and -1.
func shortLists() []numbers {
	lists := []numbers{nil}
	for from := 0; len(lists) < 1+3+9+27; from++ {
		for _, n := range sample.Small(0, 1, -1) {
			lists = append(lists, append(lists[from][:len(lists[from]):len(lists[from])], n))
		}
	}
	return lists
}

// scalars: numbers by any of their limbs.
func scalars(m *sample.Maker, ns numbers) []scalar.Scalar {
	var list []scalar.Scalar
	for _, n := range ns {
		list = append(list, m.Limbs(n))
	}
	return list
}

// content: what a commitment to lists holds.
type content struct {
	a, b numbers
	f    *big.Int
}

func (c content) same(d content) bool {
	return c.a.Same(d.a) && c.b.Same(d.b) && c.f.Cmp(d.f) == 0
}

func TestP907WhatCommitmentsToListsSay(t *testing.T) {
	m := sample.Maker(9070)
	s, _ := gens.Basis(3)
	var contents []content
	lists := shortLists()
	for range 300 {
		contents = append(contents, content{lists[m.Next()%40], lists[m.Next()%40], sample.Small(0, 1, -1)[m.Next()%3]})
	}
	for _, a := range lists[:13] {
		for _, b := range lists[:13] {
			contents = append(contents, content{a, b, big.NewInt(1)})
		}
	}
	var commitments []msm.Free
	for _, c := range contents {
		p, e := gens.CommitVectors(s, scalars(&m, c.a), scalars(&m, c.b), m.Limbs(c.f))
		if e != api.OK {
			t.Fatalf("CommitVectors of %v: %d", c, e)
		}
		commitments = append(commitments, p)
	}
	for i, c := range contents {
		for j, d := range contents {
			if commitments[i].Same(commitments[j]) != c.same(d) {
				t.Errorf("over Basis: commitments to %v and %v", c, d)
			}
		}
	}
}
