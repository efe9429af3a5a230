package ipa_test

// P1201, and the document's rules: what is handed in is left alone and not kept, what is handed out is new; types that are no group.

import (
	"slices"
	"testing"

	"veil/api"
	"veil/ipa"
	"veil/msm"
	"veil/sample"
	"veil/scalar"
	"veil/transcript"
)

// room: a statement over Free of size 4, an argument, scalars and branches, all with others behind them.
type room struct {
	p, q     msm.Free
	lists    [4][]msm.Free      // G, H, L, R
	scalars  [3][]scalar.Scalar // a, b, us
	four     []ipa.Branch
	elements [][]scalar.Scalar // all scalars of elements, with the room behind them
	answers  [][]scalar.Scalar // all scalars of branches, likewise
}

func (r *room) element(m *sample.Maker) msm.Free {
	whole := make([]scalar.Scalar, 5)
	for i := range whole {
		whole[i] = sample.Words(sample.Number(m.Bytes(32)))
	}
	r.elements = append(r.elements, whole)
	return msm.Free{K: whole[:3]}
}

func (r *room) list(m *sample.Maker) []scalar.Scalar {
	whole := make([]scalar.Scalar, 5)
	for i := range whole {
		whole[i] = sample.Words(sample.Number(m.Bytes(32)))
	}
	r.answers = append(r.answers, whole)
	return whole[:2]
}

func newRoom() *room {
	m := sample.Maker(1201)
	r := &room{}
	r.p, r.q = r.element(&m), r.element(&m)
	for i := range r.lists {
		for range 6 {
			r.lists[i] = append(r.lists[i], r.element(&m))
		}
	}
	for i := range r.scalars {
		for range 6 {
			r.scalars[i] = append(r.scalars[i], sample.Words(sample.Number(m.Bytes(32))))
		}
	}
	for range 6 {
		r.four = append(r.four, ipa.Branch{U: sample.Words(sample.Number(m.Bytes(32))), A: r.list(&m), B: r.list(&m)})
	}
	return r
}

func (r *room) statement() ipa.Statement[msm.Free] {
	return ipa.Statement[msm.Free]{P: r.p, Q: r.q, G: r.lists[0][:4], H: r.lists[1][:4]}
}

func (r *room) argument() ipa.Argument[msm.Free] {
	return ipa.Argument[msm.Free]{L: r.lists[2][:2], R: r.lists[3][:2], A: r.scalars[0][5], B: r.scalars[1][5]}
}

func sameFrees(a, b []msm.Free) bool {
	return slices.EqualFunc(a, b, func(a, b msm.Free) bool { return slices.Equal(a.K, b.K) })
}

// same: do two rooms hold the same, in all places?
func (r *room) same(s *room) bool {
	return slices.EqualFunc(r.lists[:], s.lists[:], sameFrees) && sameFrees([]msm.Free{r.p, r.q}, []msm.Free{s.p, s.q}) &&
		slices.EqualFunc(r.scalars[:], s.scalars[:], slices.Equal[[]scalar.Scalar]) &&
		slices.EqualFunc(r.elements, s.elements, slices.Equal[[]scalar.Scalar]) &&
		slices.EqualFunc(r.answers, s.answers, slices.Equal[[]scalar.Scalar]) &&
		slices.EqualFunc(r.four, s.four, func(a, b ipa.Branch) bool {
			return a.U == b.U && slices.Equal(a.A, b.A) && slices.Equal(a.B, b.B)
		})
}

// spoilLists: other things in all lists, the elements' own aside.
func (r *room) spoilLists() {
	for _, list := range r.lists {
		clear(list)
	}
	for _, list := range append(r.answers, r.scalars[:]...) {
		for i := range list {
			list[i] = scalar.Int(999)
		}
	}
	clear(r.four)
}

// spoil: other things everywhere.
func (r *room) spoil() {
	r.spoilLists()
	for _, list := range r.elements {
		for i := range list {
			list[i] = scalar.Int(999)
		}
	}
}

// answers: all that the calls hand out, of this room: lists of scalars; lists of elements that are new; and lists of elements that are handed on.
type answers struct {
	scalars    [][]scalar.Scalar
	made, past [][]msm.Free
	terms      []msm.Term[msm.Free]
}

func (r *room) answer(t *testing.T) answers {
	t.Helper()
	s, x, us, a := r.statement(), r.argument(), r.scalars[2][:2], answers{}
	keep := func(what string, e api.Errno) {
		t.Helper()
		errno(t, what, e, api.OK)
	}
	image, e := ipa.Image(s.Q, s.G, s.H, r.scalars[0][:4], r.scalars[1][:4])
	keep("Image", e)
	y, e := ipa.Prove(s.Q, s.G, s.H, r.scalars[0][:4], r.scalars[1][:4], transcript.Given(us...))
	keep("Prove", e)
	list, e := ipa.Challenges(4, x, transcript.Given(us...))
	keep("Challenges", e)
	weights, e := ipa.Weights(us)
	keep("Weights", e)
	a.terms, e = ipa.Terms(s, x, us)
	keep("Terms", e)
	errno(t, "Verify", ipa.Verify(s, x, us), api.ErrFold)
	a.made = [][]msm.Free{{image}, y.L, y.R}
	for now := range ipa.Rounds(s, x, us) {
		if len(a.past) == 0 {
			a.past = [][]msm.Free{now.G, now.H, {now.P}, {now.Q}}
			continue
		}
		a.made = append(a.made, now.G, now.H, []msm.Free{now.P})
		a.past = append(a.past, []msm.Free{now.Q})
	}
	a.scalars = [][]scalar.Scalar{list, weights, {y.A, y.B}}

	s.P = image
	ofA, ofB, relation, e := ipa.Join(s, y.L[0], y.R[0], r.provers(r.scalars[0][:4], r.scalars[1][:4]))
	keep("Join", e)
	_, _, _, e = ipa.Join(s, y.L[0], y.R[0], r.four[:4])
	errno(t, "Join of other branches", e, api.ErrNode)
	a.scalars = append(a.scalars, ofA, ofB, relation)

	// Over neutral elements all branches are accepted, and tell a relation.
	zero := ipa.Statement[msm.Free]{G: make([]msm.Free, 4), H: make([]msm.Free, 4)}
	ofA, ofB, relation, e = ipa.Join(zero, msm.Free{}, msm.Free{}, r.four[:4])
	keep("Join over neutral elements", e)
	a.scalars = append(a.scalars, ofA, ofB, relation)
	return a
}

// provers: the branches of a and b, by the room's challenges.
func (r *room) provers(a, b []scalar.Scalar) []ipa.Branch {
	var four []branch
	for _, f := range r.four[:4] {
		u := sample.NumberOf(f.U)
		nextA, nextB := next(numbersOf(a), numbersOf(b), u)
		four = append(four, branch{u, nextA, nextB})
	}
	return branches(new(sample.Maker), four)
}

// same: are two answers the same?
func (a answers) same(b answers) bool {
	return slices.EqualFunc(a.scalars, b.scalars, slices.Equal[[]scalar.Scalar]) &&
		slices.EqualFunc(a.made, b.made, sameFrees) && slices.EqualFunc(a.past, b.past, sameFrees) &&
		slices.EqualFunc(a.terms, b.terms, func(a, b msm.Term[msm.Free]) bool { return a.K == b.K && slices.Equal(a.P.K, b.P.K) })
}

func fill(list []scalar.Scalar) {
	whole := list[:cap(list)]
	for i := range whole {
		whole[i] = scalar.Int(888)
	}
}

// spoil: other things everywhere, the room behind them too, but within elements that were handed on.
func (a answers) spoil() {
	for _, list := range a.scalars {
		fill(list)
	}
	for _, list := range a.made {
		for _, p := range list[:cap(list)] {
			fill(p.K)
		}
	}
	for _, list := range append(a.made, a.past...) {
		clear(list[:cap(list)])
	}
	clear(a.terms[:cap(a.terms)])
}

func TestP1201HandedInIsLeft(t *testing.T) {
	r := newRoom()
	a := r.answer(t)
	if !r.same(newRoom()) {
		t.Fatal("a call has changed what was handed in")
	}
	a.spoil()
	if !r.same(newRoom()) {
		t.Fatal("what is written into an answer is seen in what was handed in")
	}
}

func TestP1201HandedInIsNotKept(t *testing.T) {
	r := newRoom()
	a, b := r.answer(t), newRoom().answer(t)
	r.spoilLists()
	if !a.same(b) {
		t.Error("what is written into lists that were handed in is seen in an answer")
	}
	r.spoil()
	if a.past, a.terms = b.past, b.terms; !a.same(b) {
		t.Error("what is written into elements that were handed in is seen in others than those that are handed on")
	}
	b = newRoom().answer(t)
	newRoom().answer(t).spoil()
	if !b.same(newRoom().answer(t)) {
		t.Error("what is written into one answer is seen in another")
	}
}

// No two places of what is handed out are one.
func TestP1201AnswersAreApart(t *testing.T) {
	a := newRoom().answer(t)
	lists := a.scalars
	frees := map[*msm.Free]int{}
	count := 0
	for _, list := range a.made {
		for _, p := range list {
			lists = append(lists, p.K)
		}
	}
	for _, list := range append(a.made, a.past...) {
		whole := list[:cap(list)]
		for i := range whole {
			frees[&whole[i]]++
			count++
		}
	}
	if len(frees) != count {
		t.Errorf("%d elements' places of %d are shared", count-len(frees), count)
	}
	seen := map[*scalar.Scalar]int{}
	count = 0
	for _, list := range lists {
		whole := list[:cap(list)]
		for i := range whole {
			seen[&whole[i]]++
			count++
		}
	}
	if len(seen) != count {
		t.Errorf("%d places of %d are shared", count-len(seen), count)
	}
}

// Between the call and the ranging all lists that were handed in are written over.
func TestP1204RoundsKeepsNoList(t *testing.T) {
	r := newRoom()
	want := collect(ipa.Rounds(newRoom().statement(), newRoom().argument(), newRoom().scalars[2][:2]), 99)
	seq := ipa.Rounds(r.statement(), r.argument(), r.scalars[2][:2])
	r.spoilLists()
	for range 2 {
		if got := collect(seq, 99); len(got) != 3 || !slices.EqualFunc(got, want, alike[msm.Free]) {
			t.Errorf("%v, want %v", got, want)
		}
	}
}

// What is written into a statement, or appended to it, is not seen in those behind it, nor when it is ranged over again.
func TestP1204StatementsAreApart(t *testing.T) {
	r := newRoom()
	want := collect(ipa.Rounds(r.statement(), r.argument(), r.scalars[2][:2]), 99)
	seq := ipa.Rounds(r.statement(), r.argument(), r.scalars[2][:2])
	for range 2 {
		place := 0
		for now := range seq {
			if !alike(now, want[place]) {
				t.Errorf("statement %d: %v", place, now)
			}
			if place > 0 {
				fill(now.P.K)
				for _, p := range append(slices.Clone(now.G), now.H...) {
					fill(p.K)
				}
			}
			_ = append(now.G[:1], r.q, r.q)
			_ = append(now.H[:0], r.q)
			clear(now.G[:cap(now.G)])
			clear(now.H[:cap(now.H)])
			place++
		}
	}
	if !r.same(newRoom()) {
		t.Error("what is written into a statement is seen in what was handed in")
	}
}

// The first statement, and Q in all, are the elements that were handed in; so are those of the terms.
func TestP1204P1205ElementsAreHandedOn(t *testing.T) {
	r := newRoom()
	s, x, us := r.statement(), r.argument(), r.scalars[2][:2]
	place := 0
	for now := range ipa.Rounds(s, x, us) {
		if &now.Q.K[0] != &s.Q.K[0] {
			t.Errorf("statement %d has a Q of its own", place)
		}
		if place == 0 && (&now.P.K[0] != &s.P.K[0] || &now.G[2].K[0] != &s.G[2].K[0] || &now.H[3].K[0] != &s.H[3].K[0]) {
			t.Error("the first statement has elements of its own")
		}
		place++
	}
	at := map[*scalar.Scalar]int{}
	terms, _ := ipa.Terms(s, x, us)
	for _, term := range terms {
		at[&term.P.K[0]]++
	}
	for _, p := range slices.Concat([]msm.Free{s.P, s.Q}, s.G, s.H, x.L, x.R) {
		if at[&p.K[0]] != 1 {
			t.Errorf("an element stands in %d terms", at[&p.K[0]])
		}
	}
}

// What an Oracle does with its parts is seen nowhere: the tests' own turns every byte of them.
func TestP1201PartsAreTheOraclesOwn(t *testing.T) {
	r := newRoom()
	s, us := r.statement(), r.scalars[2][:2]
	spoiling, gentle := &oracle{list: us}, transcript.Given(us...)
	x, _ := ipa.Prove(s.Q, s.G, s.H, r.scalars[0][:4], r.scalars[1][:4], spoiling)
	y, _ := ipa.Prove(s.Q, s.G, s.H, r.scalars[0][:4], r.scalars[1][:4], gentle)
	if x.A != y.A || x.B != y.B || !sameFrees(x.L, y.L) || !sameFrees(x.R, y.R) {
		t.Error("an argument hangs on what an Oracle writes into its parts")
	}
	heard(t, "Prove", spoiling.heard, gentle.Heard()...)
	spoiling, gentle = &oracle{list: us}, transcript.Given(us...)
	_, _ = ipa.Challenges(4, r.argument(), spoiling)
	_, _ = ipa.Challenges(4, r.argument(), gentle)
	heard(t, "Challenges", spoiling.heard, gentle.Heard()...)
	if !r.same(newRoom()) {
		t.Error("what an Oracle writes into its parts is seen in what was handed in")
	}
}

// nil and empty lists are the same.
func TestP1201NilAndEmpty(t *testing.T) {
	none, empty := []msm.Line(nil), []msm.Line{}
	p, e := ipa.Image(line(5), none, empty, nil, []scalar.Scalar{})
	if p != line(0) || e != api.OK {
		t.Errorf("Image = %v, %d", p, e)
	}
	s := ipa.Statement[msm.Line]{P: line(93), Q: line(5), G: lines(1), H: lines(3)}
	for _, x := range []ipa.Argument[msm.Line]{{A: scalar.Int(2), B: scalar.Int(7)}, {L: empty, R: none, A: scalar.Int(2), B: scalar.Int(7)}} {
		for _, us := range [][]scalar.Scalar{nil, {}} {
			errno(t, "Verify", ipa.Verify(s, x, us), api.OK)
			_, e := ipa.Challenges(1, x, &oracle{})
			errno(t, "Challenges", e, api.OK)
		}
	}
}

// Over a type that is no group all calls end.
func TestP1201NoGroup(t *testing.T) {
	for n := range 64 {
		g := []sample.Wild{sample.Wild(n), 1, 2, sample.Wild(3 * n)}
		ks := ints(1, 2, 3, uint64(n))
		o := transcript.New("wild")
		p, _ := ipa.Image(g[0], g, g, ks, ks)
		x, _ := ipa.Prove(g[0], g, g, ks, ks, o)
		us, _ := ipa.Challenges(4, x, o)
		s := ipa.Statement[sample.Wild]{P: p, Q: g[0], G: g, H: g}
		ipa.Verify(s, x, us)
		ipa.Terms(s, x, us)
		for range ipa.Rounds(s, x, us) {
		}
		for i := range g {
			g[i] = sample.Wild(n + i)
			ipa.Join(s, p, g[i], []ipa.Branch{{ks[0], ks[:2], ks[2:]}, {ks[1], ks[:2], ks[2:]}, {ks[2], ks[:2], ks[2:]}, {scalar.Int(99), ks[:2], ks[2:]}})
		}
	}
}
