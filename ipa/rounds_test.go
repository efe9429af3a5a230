package ipa_test

// P1204: the statements of an argument, one by one, and what is said at their end.

import (
	"iter"
	"math/big"
	"slices"
	"testing"

	"veil/api"
	"veil/ipa"
	"veil/msm"
	"veil/sample"
	"veil/scalar"
)

func roundsOver[P msm.Group[P]](t *testing.T, m *sample.Maker, kind sample.Kind[P], sizes []int) {
	t.Helper()
	for _, size := range sizes {
		count := roundsOf(size)
		s, x, us := anyStated(m, kind, size), anyArgued(m, kind, count), chances(m, count)
		round := 0
		for now := range ipa.Rounds(statement(m, kind, s), argument(m, kind, x), limbs(m, us)) {
			if round > count {
				t.Fatalf("over %s: more statements than %d", kind.Name, count+1)
			}
			isStated(t, "Rounds", kind, now, s)
			if round < count {
				s = s.folded(x.l[round], x.r[round], us[round])
			}
			round++
		}
		if round != count+1 || len(s.g) != 1 {
			t.Errorf("over %s: %d statements of %d rounds", kind.Name, round, count)
		}
	}
}

func TestP1204Rounds(t *testing.T) {
	m := sample.Maker(1204)
	for range 4 {
		roundsOver(t, &m, sample.Lines(), sizes(32))
		roundsOver(t, &m, sample.Frees(), sizes(32))
		roundsOver(t, &m, sample.Boxes(), sizes(32))
	}
	roundsOver(t, &m, sample.Lines(), []int{256, 1024})
	roundsOver(t, &m, sample.Points(), sizes(8))
}

// collect: at most so many statements of a sequence.
func collect[P any](seq iter.Seq[ipa.Statement[P]], most int) []ipa.Statement[P] {
	var list []ipa.Statement[P]
	for now := range seq {
		if list = append(list, now); len(list) >= most {
			break
		}
	}
	return list
}

// alike: are two statements the same?
func alike[P msm.Group[P]](s, t ipa.Statement[P]) bool {
	return s.P.Same(t.P) && s.Q.Same(t.Q) && slices.EqualFunc(s.G, t.G, P.Same) && slices.EqualFunc(s.H, t.H, P.Same)
}

// Broken off anywhere, ranged over again, within itself, and by Pull: it begins anew, and goes on where it was.
func TestP1204RoundsAnew(t *testing.T) {
	m := sample.Maker(12040)
	kind := sample.Frees()
	s, x, us := statement(&m, kind, anyStated(&m, kind, 16)), argument(&m, kind, anyArgued(&m, kind, 4)), limbs(&m, chances(&m, 4))
	seq := ipa.Rounds(s, x, us)
	all := collect(ipa.Rounds(s, x, us), 99)
	if len(all) != 5 {
		t.Fatalf("%d statements", len(all))
	}
	for most := 1; most <= 6; most++ {
		got := collect(seq, most)
		if len(got) != min(most, 5) || !slices.EqualFunc(got, all[:len(got)], alike[msm.Free]) {
			t.Errorf("broken off behind %d: %v", most, got)
		}
	}
	place := 0
	for now := range seq {
		if inner := collect(seq, 99); !slices.EqualFunc(inner, all, alike[msm.Free]) {
			t.Errorf("within itself: %v", inner)
		}
		if !alike(now, all[place]) {
			t.Errorf("around itself: %v", now)
		}
		place++
	}
	one, stopOne := iter.Pull(seq)
	two, stopTwo := iter.Pull(seq)
	for i := range all {
		a, okA := one()
		b, okB := two()
		if !okA || !okB || !alike(a, all[i]) || !alike(b, all[i]) {
			t.Errorf("side by side: %v, %v", a, b)
		}
	}
	if _, ok := one(); ok {
		t.Error("one statement too many")
	}
	stopOne()
	stopTwo()
}

// counted: a group that counts what is done in it, all of its elements together.
type counted struct {
	msm.Line
	done *int
}

func (a counted) tick(b counted) *int {
	done := a.done
	if done == nil {
		done = b.done
	}
	if done != nil {
		*done++
	}
	return done
}

func (a counted) Add(b counted) counted         { return counted{a.Line.Add(b.Line), a.tick(b)} }
func (a counted) Neg() counted                  { return counted{a.Line.Neg(), a.tick(a)} }
func (a counted) Double() counted               { return counted{a.Line.Double(), a.tick(a)} }
func (a counted) Times(k scalar.Scalar) counted { return counted{a.Line.Times(k), a.tick(a)} }
func (a counted) Same(b counted) bool           { return a.Line.Same(b.Line) }
func (a counted) Encode() api.Bytes32           { return a.Line.Encode() }
func (a counted) Decode(b api.Bytes32) (counted, api.Errno) {
	p, e := a.Line.Decode(b)
	return counted{p, a.done}, e
}

// Each statement is made when it is asked for: nothing is done ahead of it, and nothing behind the last one that was asked for.
func TestP1204EachWhenItIsAskedFor(t *testing.T) {
	done := 0
	of := func(count int) []counted {
		list := make([]counted, count)
		for i := range list {
			list[i] = counted{line(uint64(i + 3)), &done}
		}
		return list
	}
	s := ipa.Statement[counted]{P: of(1)[0], Q: of(2)[1], G: of(64), H: of(64)}
	x := ipa.Argument[counted]{L: of(6), R: of(6)}
	seq := ipa.Rounds(s, x, ints(2, 3, 4, 5, 6, 7))
	if done != 0 {
		t.Errorf("%d operations when nothing was asked for", done)
	}
	var steps []int
	for stop := 1; stop <= 7; stop++ {
		done = 0
		place := 0
		for range seq {
			if place++; place == stop {
				break
			}
		}
		steps = append(steps, done)
	}
	if steps[0] != 0 {
		t.Errorf("%d operations for the first statement, which is there", steps[0])
	}
	for i, count := range steps[1:] {
		// To fold takes two multiples and a sum for each element that is left, and as much again at most is allowed to copy.
		size := 64 >> (i + 1)
		if extra := count - steps[i]; extra < 6*size || extra > 12*size+12 {
			t.Errorf("%d operations for a statement of the size %d", extra, size)
		}
	}
}

func verifyOver[P msm.Group[P]](t *testing.T, m *sample.Maker, kind sample.Kind[P], sizes []int) {
	t.Helper()
	one := big.NewInt(1)
	for _, size := range sizes {
		count := roundsOf(size)
		s, x, us := anyStated(m, kind, size), anyArgued(m, kind, count), chances(m, count)
		check := func(what string, s stated, x argued, us numbers) {
			t.Helper()
			left := s.left(x, us)
			st, ar, list := statement(m, kind, s), argument(m, kind, x), limbs(m, us)
			errno(t, "Verify over "+kind.Name+", "+what, ipa.Verify(st, ar, list), right(left.Same(numbers{}), api.ErrFold))
			terms, e := ipa.Terms(st, ar, list)
			errno(t, "Terms over "+kind.Name, e, api.OK)
			if len(terms) > 2*size+2*count+2 {
				t.Errorf("%d terms of size %d", len(terms), size)
			}
			are(t, "Terms, "+what, kind, []P{msm.Plain(terms...)}, left)
		}
		check("of anything", s, x, us)
		s.p = s.p.Plus(s.left(x, us).Times(big.NewInt(-1)))
		if !s.left(x, us).Same(numbers{}) {
			t.Fatal("the last statement's p is not made right")
		}
		check("made right", s, x, us)
		check("another a", s, argued{x.l, x.r, plus(x.a, one), x.b}, us)
		check("another b", s, argued{x.l, x.r, x.a, plus(x.b, one)}, us)
		check("another p", stated{s.p.Plus(numbers{one}), s.q, s.g, s.h}, x, us)
		check("another q", stated{s.p, s.q.Plus(numbers{one}), s.g, s.h}, x, us)
		place := int(m.Next() % uint64(size))
		check("another g", stated{s.p, s.q, turned(s.g, place), s.h}, x, us)
		check("another h", stated{s.p, s.q, s.g, turned(s.h, place)}, x, us)
		for round := range count {
			check("another l", s, argued{turned(x.l, round), x.r, x.a, x.b}, us)
			check("another r", s, argued{x.l, turned(x.r, round), x.a, x.b}, us)
			list := slices.Clone(us)
			if list[round] = plus(list[round], one); list[round].Sign() != 0 {
				check("another u", s, x, list)
			}
			list[round] = negative(us[round])
			check("a u turned round", s, x, list)
		}
	}
}

// turned: the elements but for one, to which 1 is added.
func turned(list []numbers, place int) []numbers {
	list = slices.Clone(list)
	list[place] = list[place].Plus(numbers{big.NewInt(1)})
	return list
}

func TestP1204P1205VerifyAndTerms(t *testing.T) {
	m := sample.Maker(12041)
	for range 3 {
		verifyOver(t, &m, sample.Lines(), sizes(16))
		verifyOver(t, &m, sample.Frees(), sizes(16))
		verifyOver(t, &m, sample.Boxes(), sizes(16))
	}
	verifyOver(t, &m, sample.Lines(), []int{1024})
	verifyOver(t, &m, sample.Points(), sizes(2))
}
