package gens_test

// P901, and the document's rules: what is remembered is not seen, what is handed in is left alone and not kept, what is handed out is new, nil and empty are the same.

import (
	"bytes"
	"slices"
	"sync"
	"testing"

	"veil/api"
	"veil/gens"
	"veil/group"
	"veil/msm"
	"veil/sample"
	"veil/scalar"
)

// spoil: writes other elements into a set's lists, the room behind them too, and appends to them.
func spoil[P any](s *gens.Set[P], with P) {
	for _, list := range []*[]P{&s.G, &s.H} {
		whole := (*list)[:cap(*list)]
		for i := range whole {
			whole[i] = with
		}
		*list = append(*list, with)
	}
	s.B, s.Blind, s.Q = with, with, with
}

// fresh: what is written into one answer is seen in no other, neither in one from before nor in one from behind.
func fresh[P msm.Group[P]](t *testing.T, what string, n int, with P, set func() gens.Set[P], want func(kind, i int) P) {
	t.Helper()
	before, one := set(), set()
	spoil(&one, with)
	isSet(t, what+" from before", before, n, want)
	isSet(t, what+" from behind", set(), n, want)
}

func TestP901SetsAreNewMemory(t *testing.T) {
	seed := []byte("new")
	for _, n := range []int{0, 1, 5} {
		fresh(t, "Standard", n, group.Base().Double(), func() gens.Set[group.Point] {
			s, _ := gens.Standard(n)
			return s
		}, derived)
		fresh(t, "Lines", n, msm.Line{K: scalar.Int(9)}, func() gens.Set[msm.Line] {
			s, _ := gens.Lines(seed, n)
			return s
		}, func(kind, i int) msm.Line { return msm.Line{K: logOf(seed, kind, i)} })
	}
}

// twoLists: what is written into one list of a set, the room behind it too, is not seen in the other.
func twoLists[P msm.Group[P]](t *testing.T, what string, s gens.Set[P], e api.Errno, with P) {
	t.Helper()
	if e != api.OK {
		t.Fatalf("%s: %d", what, e)
	}
	var neutral P
	for _, next := range []P{with, neutral} {
		was := slices.Clone(s.H)
		whole := s.G[:cap(s.G)]
		for i := range whole {
			whole[i] = next
		}
		if !slices.EqualFunc(s.H, was, P.Same) {
			t.Errorf("%s: G and H share memory", what)
		}
		s.G, s.H = s.H, s.G
	}
}

func TestP901ListsOfOneAnswerAreApart(t *testing.T) {
	for _, n := range []int{1, 2, 5, 64} {
		nine := scalar.Int(9)
		standard, e := gens.Standard(n)
		part, f := standard.Part(n/2, n-n/2)
		twoLists(t, "Standard", standard, e, group.Base())
		twoLists(t, "Part", part, f, group.Base())
		lines, e := gens.Lines(nil, n)
		twoLists(t, "Lines", lines, e, msm.Line{K: nine})
		basis, e := gens.Basis(n)
		twoLists(t, "Basis", basis, e, msm.Free{K: []scalar.Scalar{nine}})
	}
}

// places: where the scalars of elements stand, with the room behind them.
func places(elements ...msm.Free) []*scalar.Scalar {
	var list []*scalar.Scalar
	for _, a := range elements {
		whole := a.K[:cap(a.K)]
		for i := range whole {
			list = append(list, &whole[i])
		}
	}
	return list
}

// apart: no place may come up twice.
func apart(t *testing.T, what string, list []*scalar.Scalar) {
	t.Helper()
	seen := map[*scalar.Scalar]int{}
	for _, place := range list {
		seen[place]++
	}
	if len(seen) != len(list) {
		t.Errorf("%s: %d places of %d are shared", what, len(list)-len(seen), len(list))
	}
}

func TestP901BasisIsNewMemory(t *testing.T) {
	for _, n := range []int{0, 1, 5, 64} {
		one, _ := gens.Basis(n)
		two, _ := gens.Basis(n)
		apart(t, "Basis", places(append(gens.All(one), gens.All(two)...)...))
		spoil(&one, msm.Free{K: []scalar.Scalar{scalar.Int(9)}})
		for j, a := range gens.All(two) {
			if len(a.K) != j+1 || a.K[j] != scalar.Int(1) {
				t.Errorf("Basis(%d): what was written into it is seen in another", n)
			}
		}
	}
}

// roomy: a set of Free elements whose lists have others behind them.
func roomy(m *sample.Maker, left, right int) (set, whole gens.Set[msm.Free]) {
	whole = byHand(m, sample.Frees(), left+3, right+3).set
	for i := range whole.G {
		whole.G[i] = msm.Free{K: append(whole.G[i].K, scalar.Int(5))}
	}
	for i := range whole.H {
		whole.H[i] = msm.Free{K: append(whole.H[i].K, scalar.Int(6))}
	}
	set = whole
	set.G, set.H = whole.G[:left], whole.H[:right]
	return set, whole
}

// deep: the scalars of all elements of a set, in a place of their own.
func deep(s gens.Set[msm.Free]) [][]scalar.Scalar {
	var list [][]scalar.Scalar
	for _, a := range gens.All(s) {
		list = append(list, slices.Clone(a.K[:cap(a.K)]))
	}
	return list
}

// untouched: does a set hold what it held?
func untouched(s gens.Set[msm.Free], was [][]scalar.Scalar) bool {
	return slices.EqualFunc(deep(s), was, slices.Equal[[]scalar.Scalar])
}

func TestP901PartIsNewMemory(t *testing.T) {
	m := sample.Maker(901)
	set, whole := roomy(&m, 6, 5)
	was := deep(whole)
	for _, c := range [][2]int{{0, 0}, {0, 5}, {1, 2}, {2, 3}, {5, 0}} {
		one, _ := set.Part(c[0], c[1])
		two, _ := set.Part(c[0], c[1])
		spoil(&one, msm.Free{})
		isSet(t, "another part", two, c[1], from(set, c[0]))
		if !untouched(whole, was) {
			t.Fatalf("Part(%d, %d): what was written into it is seen in the set", c[0], c[1])
		}
	}
	part, _ := set.Part(1, 3)
	other := deep(part)
	spoil(&set, msm.Free{})
	if !untouched(part, other) {
		t.Error("what is written into the set is seen in its part")
	}
}

func TestP901AllIsNewMemory(t *testing.T) {
	m := sample.Maker(9010)
	for _, c := range [][2]int{{0, 0}, {4, 0}, {0, 3}, {4, 3}} {
		set, whole := roomy(&m, c[0], c[1])
		was, own := deep(whole), deep(set)
		one, two := gens.All(set), gens.All(set)
		clear(one[:cap(one)])
		one = append(one, msm.Free{})
		if !untouched(whole, was) {
			t.Fatal("what was written into All is seen in the set")
		}
		spoil(&set, msm.Free{})
		for i, a := range two {
			if !slices.Equal(a.K[:cap(a.K)], own[i]) {
				t.Fatal("what is written into the set, or into another answer, is seen in All")
			}
		}
	}
}

// P3: Part and All hand on the elements themselves.
func TestP901ElementsAreHandedOn(t *testing.T) {
	m := sample.Maker(90100)
	set, _ := roomy(&m, 4, 4)
	part, _ := set.Part(1, 2)
	all := gens.All(set)
	if &part.G[0].K[0] != &set.G[1].K[0] || &part.H[1].K[0] != &set.H[2].K[0] || &all[3].K[0] != &set.G[0].K[0] || &all[10].K[0] != &set.H[3].K[0] {
		t.Error("an element is another")
	}
}

// commitments: all that the calls answer for a set and lists, multiples by 0 and 1 among them.
func commitments(s gens.Set[msm.Free], a, b []scalar.Scalar) []msm.Free {
	zero, one := scalar.Scalar{}, scalar.Int(1)
	list := []msm.Free{gens.Commit(s, zero, zero), gens.Commit(s, one, zero), gens.Commit(s, zero, one), gens.Commit(s, a[0], b[0])}
	for _, c := range []struct {
		a, b  []scalar.Scalar
		blind scalar.Scalar
	}{{a, b, a[0]}, {nil, nil, one}, {nil, nil, zero}, {[]scalar.Scalar{one}, nil, zero}, {nil, []scalar.Scalar{zero, one}, zero}, {a, nil, one}} {
		p, _ := gens.CommitVectors(s, c.a, c.b, c.blind)
		list = append(list, p)
	}
	return list
}

func TestP901CommitmentsAreNewMemory(t *testing.T) {
	m := sample.Maker(901000)
	for range 10 {
		set, whole := roomy(&m, 4, 3)
		_, ks := list(&m, 5)
		_, js := list(&m, 5)
		was, wasK, wasJ := deep(whole), slices.Clone(ks), slices.Clone(js)
		one, two := commitments(set, ks[:4], js[:3]), commitments(set, ks[:4], js[:3])
		apart(t, "commitments", places(slices.Concat(gens.All(whole), one, two)...))
		for _, place := range places(one...) {
			*place = scalar.Int(77)
		}
		if !untouched(whole, was) || !slices.Equal(ks, wasK) || !slices.Equal(js, wasJ) {
			t.Error("a set or a list that was handed in, or the room behind it, has changed")
		}
	}
}

// A set and lists that were handed in may be written into behind the call.
func TestP901NothingIsKept(t *testing.T) {
	m := sample.Maker(9011)
	s := byHand(&m, sample.Frees(), 3, 3)
	ns, ks := list(&m, 3)
	c, _ := gens.CommitVectors(s.set, ks, ks, ks[0])
	d := gens.Commit(s.set, ks[1], ks[2])
	for _, place := range places(gens.All(s.set)...) {
		*place = scalar.Int(9)
	}
	clear(ks)
	spoil(&s.set, msm.Free{})
	s.is(t, "CommitVectors", c, s.weighed(ns, ns, ns[0]))
	s.is(t, "Commit", d, s.b.Times(ns[1]).Plus(s.blind.Times(ns[2])))
}

func TestP901SeedsAreLeftAndNotKept(t *testing.T) {
	m := sample.Maker(9012)
	room := m.Bytes(200)
	was := slices.Clone(room)
	for _, n := range []int{0, 1, 31, 64, 119, 150} {
		seed := room[:n]
		s, _ := gens.Lines(seed, 2)
		if !bytes.Equal(room, was) {
			t.Fatalf("a seed of %d bytes, or the room behind it, has changed", n)
		}
		clear(room)
		again, _ := gens.Lines(seed, 2)
		copy(room, was)
		isSet(t, "Lines", s, 2, func(kind, i int) msm.Line { return msm.Line{K: logOf(was[:n], kind, i)} })
		isSet(t, "Lines of zeros", again, 2, func(kind, i int) msm.Line { return msm.Line{K: logOf(make([]byte, n), kind, i)} })
	}
}

func TestP901NilAndEmpty(t *testing.T) {
	none, _ := gens.Lines(nil, 2)
	empty, _ := gens.Lines(make([]byte, 0, 5), 2)
	isSet(t, "Lines", empty, 2, from(none, 0))

	bare := gens.Set[msm.Line]{B: none.B, Blind: none.Blind, Q: none.Q}
	hollow := bare
	hollow.G, hollow.H = []msm.Line{}, make([]msm.Line, 0, 4)
	for _, s := range []gens.Set[msm.Line]{bare, hollow} {
		if p, e := s.Part(0, 0); e != api.OK || len(p.G) != 0 || len(p.H) != 0 || p.B != s.B {
			t.Errorf("Part of a set without G and H: %v, %d", p, e)
		}
		if all := gens.All(s); !slices.Equal(all, []msm.Line{none.B, none.Blind, none.Q}) {
			t.Errorf("All of a set without G and H: %v", all)
		}
		for _, list := range [][]scalar.Scalar{nil, {}} {
			if c, e := gens.CommitVectors(s, list, list, scalar.Int(1)); e != api.OK || !c.Same(none.Blind) {
				t.Errorf("CommitVectors of nothing: %v, %d", c, e)
			}
		}
	}
}

// P5: the zero set is one like others.
func TestP901ZeroSets(t *testing.T) {
	if c := gens.Commit(gens.Set[group.Point]{}, scalar.Int(3), scalar.Int(4)); !c.Same(group.Point{}) {
		t.Errorf("Commit over the zero set: %x", c.Encode())
	}
	if c, e := gens.CommitVectors(gens.Set[msm.Free]{}, nil, nil, scalar.Int(4)); e != api.OK || len(c.K) != 0 {
		t.Errorf("CommitVectors over the zero set: %v, %d", c, e)
	}
	zeros := gens.Set[group.Point]{G: make([]group.Point, 3), H: make([]group.Point, 3)}
	if c, e := gens.CommitVectors(zeros, make([]scalar.Scalar, 3), []scalar.Scalar{{1}, {2}}, scalar.Int(4)); e != api.OK || !c.Same(group.Point{}) {
		t.Errorf("CommitVectors over neutral elements: %x, %d", c.Encode(), e)
	}
}

// A panic in any call fails the test.
func TestP901EveryCallEndsOverAnyType(t *testing.T) {
	m := sample.Maker(9013)
	for range 50 {
		s := gens.Set[sample.Wild]{B: sample.Wild(m.Next()), Blind: sample.Wild(m.Next())}
		for range m.Next() % 6 {
			s.G = append(s.G, sample.Wild(m.Next()))
			s.H = append(s.H, sample.Wild(m.Next()))
		}
		_, ks := list(&m, int(m.Next()%8))
		gens.Commit(s, m.Limbs(m.Number()), m.Limbs(m.Number()))
		gens.CommitVectors(s, ks, ks, m.Limbs(m.Number()))
		gens.All(s)
		s.Part(int(m.Next()%4), int(m.Next()%4))
	}
}

// What was asked for ahead, and in which order, is not to be seen.
func TestP901OrderIsNotSeen(t *testing.T) {
	m := sample.Maker(9014)
	first := map[[2]int]group.Point{}
	for range 3000 {
		c := [2]int{int(m.Next() % 7), int(m.Next() % 1030)}
		p, e := gens.Point(c[0], c[1])
		there := c[0] >= 1 && c[0] <= 3 && c[1] == 0 || (c[0] == 4 || c[0] == 5) && c[1] < 1024
		if there != (e == api.OK) {
			t.Errorf("Point(%d, %d): %d", c[0], c[1], e)
		}
		if was, ok := first[c]; ok && was != p {
			t.Errorf("Point(%d, %d) is another the second time", c[0], c[1])
		}
		first[c] = p
		if m.Next()%100 == 0 {
			gens.Standard(int(m.Next() % 1030))
		}
	}
}

func TestP901CallsAtOneTime(t *testing.T) {
	lines, _ := gens.Lines([]byte("seed"), 4)
	var all sync.WaitGroup
	for worker := range 16 {
		all.Go(func() {
			for round := range 4 {
				n := (worker*7 + round*3) % 10
				s, _ := gens.Standard(n)
				isSet(t, "Standard", s, n, derived)
				p, e := gens.Point(api.GenRight, 1000+n)
				if e != api.OK || !p.Same(derived(api.GenRight, 1000+n)) {
					t.Errorf("Point(GenRight, %d): %x, %d", 1000+n, p.Encode(), e)
				}
				if _, e := gens.Point(api.GenRight, -n-1); e != api.ErrArg {
					t.Errorf("Point(GenRight, %d): %d", -n-1, e)
				}
				other, _ := gens.Lines([]byte("seed"), 4)
				isSet(t, "Lines", other, 4, from(lines, 0))
			}
		})
	}
	all.Wait()
}
