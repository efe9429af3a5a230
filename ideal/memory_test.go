package ideal_test

// The document's rules: what is handed in is left alone and not kept, what is handed out is new; types that are no group.

import (
	"slices"
	"testing"

	"veil/api"
	"veil/gens"
	"veil/ideal"
	"veil/msm"
	"veil/ranges"
	"veil/sample"
	"veil/scalar"
)

// roomParams: of a room: 4 places.
func roomParams() api.Params { return api.Params{Bits: 2, Count: 2} }

// room: all that calls are handed, over Free and over Line, with others behind them.
type room struct {
	set      gens.Set[msm.Free]
	v        []msm.Free
	made     ideal.Tape[msm.Free]
	vs       []ranges.Opening
	tape     ranges.Tape
	lines    gens.Set[msm.Line]
	plain    ideal.Tape[msm.Line]
	y, z, x  scalar.Scalar
	elements [][]scalar.Scalar // all scalars of Free elements, with the room behind them
}

func anyScalars(m *sample.Maker, count int) []scalar.Scalar {
	list := make([]scalar.Scalar, count)
	for i := range list {
		list[i] = sample.Words(sample.Number(m.Bytes(32)))
	}
	return list
}

func (r *room) element(m *sample.Maker) msm.Free {
	whole := anyScalars(m, 5)
	r.elements = append(r.elements, whole)
	return msm.Free{K: whole[:3]}
}

func (r *room) list(m *sample.Maker, count int) []msm.Free {
	var list []msm.Free
	for range count {
		list = append(list, r.element(m))
	}
	return list
}

func lineList(m *sample.Maker, count int) []msm.Line {
	var list []msm.Line
	for _, k := range anyScalars(m, count) {
		list = append(list, msm.Line{K: k})
	}
	return list
}

// newRoom: all lists have their right lengths, and two more behind them.
func newRoom() *room {
	m := sample.Maker(16)
	r := &room{}
	k, l := anyScalars(&m, 11), lineList(&m, 5)
	r.y, r.z, r.x = k[0], k[1], k[2]
	r.set = gens.Set[msm.Free]{B: r.element(&m), Blind: r.element(&m), Q: r.element(&m), G: r.list(&m, 6)[:4], H: r.list(&m, 6)[:4]}
	r.v = r.list(&m, 4)[:2]
	r.made = ideal.Tape[msm.Free]{L: anyScalars(&m, 6)[:4], R: anyScalars(&m, 6)[:4], TauX: k[3], Mu: k[4], S: r.element(&m), T2: r.element(&m)}
	for j := range 4 {
		r.vs = append(r.vs, ranges.Opening{V: uint64(j), Blind: anyScalars(&m, 1)[0]})
	}
	r.vs = r.vs[:2]
	r.tape = ranges.Tape{Alpha: k[5], Rho: k[6], Tau1: k[7], Tau2: k[8], SL: anyScalars(&m, 6)[:4], SR: anyScalars(&m, 6)[:4]}
	r.lines = gens.Set[msm.Line]{B: l[0], Blind: l[1], Q: l[2], G: lineList(&m, 6)[:4], H: lineList(&m, 6)[:4]}
	r.plain = ideal.Tape[msm.Line]{L: anyScalars(&m, 6)[:4], R: anyScalars(&m, 6)[:4], TauX: k[9], Mu: k[10], S: l[3], T2: l[4]}
	return r
}

func wholeOf[T any](list []T) []T { return list[:cap(list)] }

func sameFrees(a, b []msm.Free) bool {
	return slices.EqualFunc(a, b, func(a, b msm.Free) bool { return slices.Equal(a.K, b.K) })
}

// lists: all lists of a room, whole.
func (r *room) lists() (elements [][]msm.Free, lines [][]msm.Line, scalars [][]scalar.Scalar) {
	elements = [][]msm.Free{wholeOf(r.set.G), wholeOf(r.set.H), wholeOf(r.v)}
	lines = [][]msm.Line{wholeOf(r.lines.G), wholeOf(r.lines.H)}
	for _, list := range [][]scalar.Scalar{r.made.L, r.made.R, r.tape.SL, r.tape.SR, r.plain.L, r.plain.R} {
		scalars = append(scalars, wholeOf(list))
	}
	return elements, lines, append(scalars, r.elements...)
}

// same: do two rooms hold the same, in all places?
func (r *room) same(s *room) bool {
	elements, lines, scalars := r.lists()
	others, plain, numbers := s.lists()
	return slices.EqualFunc(elements, others, sameFrees) && slices.EqualFunc(lines, plain, slices.Equal[[]msm.Line]) &&
		slices.EqualFunc(scalars, numbers, slices.Equal[[]scalar.Scalar]) && slices.Equal(wholeOf(r.vs), wholeOf(s.vs))
}

// spoil: other things everywhere.
func (r *room) spoil() {
	elements, lines, scalars := r.lists()
	for _, list := range scalars {
		for i := range list {
			list[i] = scalar.Int(999)
		}
	}
	for _, list := range elements {
		clear(list)
	}
	for _, list := range lines {
		clear(list)
	}
	for j := range wholeOf(r.vs) {
		wholeOf(r.vs)[j] = ranges.Opening{V: 3, Blind: scalar.Int(999)}
	}
}

// answers: all that the calls hand out, of this room, but S and T2 of the simulator's view, which are handed on.
type answers struct {
	scalars [][]scalar.Scalar // lists, with all scalars of elements
	single  []scalar.Scalar
}

func (r *room) answer(t *testing.T) answers {
	t.Helper()
	p := roomParams()
	w, e := ideal.Simulate(r.set, p, r.v, r.y, r.z, r.x, r.made)
	errno(t, "Simulate", e, api.OK)
	m, e := ideal.Match(r.set, p, r.vs, r.y, r.z, r.x, r.tape)
	errno(t, "Match", e, api.OK)
	n, e := ideal.Match(r.lines, p, r.vs, r.y, r.z, r.x, r.tape)
	errno(t, "Match", e, api.OK)
	b, e := ideal.Back(r.lines, p, r.vs, r.y, r.z, r.x, r.plain)
	errno(t, "Back", e, api.OK)
	return answers{
		[][]scalar.Scalar{w.L, w.R, w.A.K, w.T1.K, m.L, m.R, m.S.K, m.T2.K, n.L, n.R, b.SL, b.SR},
		[]scalar.Scalar{w.Y, w.Z, w.X, w.TauX, w.Mu, w.That, m.TauX, m.Mu, n.TauX, n.Mu, n.S.K, n.T2.K, b.Alpha, b.Rho, b.Tau1, b.Tau2},
	}
}

func (a answers) same(b answers) bool {
	return slices.EqualFunc(a.scalars, b.scalars, slices.Equal[[]scalar.Scalar]) && slices.Equal(a.single, b.single)
}

// spoil: other things everywhere, the room behind them too.
func (a answers) spoil() {
	for _, list := range a.scalars {
		for i := range wholeOf(list) {
			wholeOf(list)[i] = scalar.Int(888)
		}
	}
}

func TestHandedInIsLeft(t *testing.T) {
	r := newRoom()
	a := r.answer(t)
	if !r.same(newRoom()) {
		t.Fatal("a call has changed what was handed in")
	}
	a.spoil()
	if !r.same(newRoom()) {
		t.Fatal("what is written into an answer is seen in what was handed in")
	}
}

// With an error, too, all is as it was.
func TestHandedInIsLeftBesideErrors(t *testing.T) {
	r, zero, three := newRoom(), num(0), api.Params{Bits: 3, Count: 1}
	for _, p := range []api.Params{three, {Bits: 4, Count: 2}, {Bits: 4, Count: 1}, {Bits: 1, Count: 4}, {Bits: 2, Count: 1}, roomParams()} {
		_, first := ideal.Simulate(r.set, p, r.v, r.y, r.z, zero, r.made)
		_, second := ideal.Match(r.set, p, r.vs, r.y, zero, r.x, r.tape)
		_, third := ideal.Back(r.lines, p, r.vs, zero, r.z, r.x, r.plain)
		if first == api.OK || second == api.OK || third == api.OK {
			t.Errorf("%v: no error", p)
		}
	}
	if !r.same(newRoom()) {
		t.Error("a call has changed what was handed in")
	}
}

func TestHandedInIsNotKept(t *testing.T) {
	r := newRoom()
	a, b := r.answer(t), newRoom().answer(t)
	r.spoil()
	if !a.same(b) {
		t.Error("what is written into what was handed in is seen in an answer")
	}
	b = newRoom().answer(t)
	newRoom().answer(t).spoil()
	if !b.same(newRoom().answer(t)) {
		t.Error("what is written into one answer is seen in another")
	}
}

// No two places of what is handed out are one, nor one of them a place of what was handed in.
func TestAnswersAreApart(t *testing.T) {
	r := newRoom()
	_, _, handed := r.lists()
	seen := map[*scalar.Scalar]int{}
	count := 0
	for _, list := range slices.Concat(r.answer(t).scalars, r.answer(t).scalars, handed) {
		for i := range wholeOf(list) {
			seen[&wholeOf(list)[i]]++
			count++
		}
	}
	if len(seen) != count {
		t.Errorf("%d places of %d are shared", count-len(seen), count)
	}
}

// S and T2 of the simulator's view are the elements themselves of its tape.
func TestP3SimulateHandsOn(t *testing.T) {
	r := newRoom()
	w, e := ideal.Simulate(r.set, roomParams(), r.v, r.y, r.z, r.x, r.made)
	errno(t, "Simulate", e, api.OK)
	if len(w.S.K) != 3 || &w.S.K[0] != &r.made.S.K[0] || len(w.T2.K) != 3 || &w.T2.K[0] != &r.made.T2.K[0] {
		t.Error("S or T2 is not the element that was handed in")
	}
}

// The same room is asked twice, and in between for something else: each answer hangs on what is handed in alone.
func TestP1NothingIsKept(t *testing.T) {
	r := newRoom()
	a := r.answer(t)
	other := newRoom()
	other.y, other.z, other.x = other.x, other.y, other.z
	if other.answer(t).same(a) {
		t.Error("other challenges make no other answer")
	}
	if !r.answer(t).same(a) {
		t.Error("a second call answers something else")
	}
}

// Generators from N on, and Q, are not looked at.
func TestGeneratorsBehindAreNotLookedAt(t *testing.T) {
	a, s := newRoom().answer(t), newRoom()
	s.set.G, s.set.H = wholeOf(s.set.G)[:6], wholeOf(s.set.H)[:5]
	s.lines.G, s.lines.H = wholeOf(s.lines.G)[:5], wholeOf(s.lines.H)[:6]
	if !a.same(s.answer(t)) {
		t.Error("more generators make another answer")
	}
	clear(s.set.G[4:])
	clear(s.lines.H[4:])
	s.set.Q, s.lines.Q = msm.Free{}, msm.Line{}
	if !a.same(s.answer(t)) {
		t.Error("other generators behind, or another Q, make another answer")
	}
}

// nil and empty lists are the same.
func TestNilAndEmpty(t *testing.T) {
	p := exampleParams()
	for _, none := range [][]scalar.Scalar{nil, {}} {
		c := callOf(p, fitting(p))
		c.made.L, c.tape.SL = none, none
		c.all(t, api.ErrLength)
		c = callOf(p, fitting(p))
		c.made.R, c.tape.SR = none, none
		c.all(t, api.ErrLength)
	}
	for _, c := range []call{callOf(p, sizes{g: 1, h: 1, left: 1, right: 1}), callOf(p, sizes{values: 1, left: 1, right: 1})} {
		c.all(t, api.ErrLength)
		c.v, c.vs = nil, nil
		c.all(t, api.ErrLength)
		c.g.G, c.g.H = nil, nil
		c.all(t, api.ErrLength)
	}
	// A Free element that is nil inside is neutral.
	free := gens.Set[msm.Free]{G: make([]msm.Free, 1), H: []msm.Free{{K: []scalar.Scalar{}}}}
	w, e := ideal.Simulate(free, p, make([]msm.Free, 1), num(1), num(2), num(3), ideal.Tape[msm.Free]{L: nums(1), R: nums(2)})
	if e != api.OK || !w.A.Same(msm.Free{}) || !w.T1.Same(msm.Free{}) || w.That != num(2) {
		t.Errorf("Simulate over neutral elements: %v, %d", w, e)
	}
}

// Over a type that is no group all calls end.
func TestNoGroup(t *testing.T) {
	p := api.Params{Bits: 2, Count: 1}
	for n := range 32 {
		a := []sample.Wild{sample.Wild(n), 1, 2, sample.Wild(3 * n)}
		g := gens.Set[sample.Wild]{B: a[0], Blind: a[1], Q: a[3], G: a, H: a}
		_, _ = ideal.Simulate(g, p, a[:1], num(1), num(2), num(int64(n)), ideal.Tape[sample.Wild]{L: nums(1, 2), R: nums(3, 4), S: a[1], T2: a[2]})
		_, _ = ideal.Match(g, p, []ranges.Opening{{V: 3}}, num(1), num(int64(n)), num(2), ranges.Tape{SL: nums(1, 2), SR: nums(3, int64(n))})
	}
}
