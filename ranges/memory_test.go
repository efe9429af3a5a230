package ranges_test

// The document's rules: what is handed in is left alone and not kept, what is handed out is new; types that are no group.

import (
	"bytes"
	"slices"
	"testing"

	"veil/api"
	"veil/gens"
	"veil/msm"
	"veil/ranges"
	"veil/sample"
	"veil/scalar"
	"veil/transcript"
	"veil/wire"
)

// roomParams: of a room: 4 places, 2 rounds.
func roomParams() api.Params { return api.Params{Bits: 2, Count: 2} }

// room: all that calls are handed, over Free, with others behind them.
type room struct {
	set      gens.Set[msm.Free]
	vs       []ranges.Opening
	tape     ranges.Tape
	v        []msm.Free
	view     ranges.View[msm.Free]
	proof    wire.Proof[msm.Free]
	given    []scalar.Scalar
	stream   []byte
	bytes    []api.Bytes32
	sent     []byte
	elements [][]scalar.Scalar // all scalars of elements, with the room behind them
}

func (r *room) scalars(m *sample.Maker, count int) []scalar.Scalar {
	list := make([]scalar.Scalar, count)
	for i := range list {
		list[i] = sample.Words(sample.Number(m.Bytes(32)))
	}
	return list
}

func (r *room) element(m *sample.Maker) msm.Free {
	whole := r.scalars(m, 5)
	r.elements = append(r.elements, whole)
	return msm.Free{K: whole[:3]}
}

func (r *room) list(m *sample.Maker, count int) []msm.Free {
	var list []msm.Free
	for range count {
		list = append(list, r.element(m))
	}
	return list
}

// newRoom: all lists have their right lengths, and two more behind them.
func newRoom() *room {
	m := sample.Maker(1300)
	r := &room{}
	r.set = gens.Set[msm.Free]{B: r.element(&m), Blind: r.element(&m), Q: r.element(&m), G: r.list(&m, 6)[:4], H: r.list(&m, 6)[:4]}
	for j := range 4 {
		r.vs = append(r.vs, ranges.Opening{V: uint64(j), Blind: r.scalars(&m, 1)[0]})
	}
	k := r.scalars(&m, 10)
	r.vs, r.v = r.vs[:2], r.list(&m, 4)[:2]
	r.tape = ranges.Tape{Alpha: k[0], Rho: k[1], Tau1: k[2], Tau2: k[3], SL: r.scalars(&m, 6)[:4], SR: r.scalars(&m, 6)[:4]}
	r.view = ranges.View[msm.Free]{A: r.element(&m), S: r.element(&m), T1: r.element(&m), T2: r.element(&m), Y: k[0], Z: k[1], X: k[2], TauX: k[3], Mu: k[4], That: k[5], L: r.scalars(&m, 6)[:4], R: r.scalars(&m, 6)[:4]}
	r.proof = wire.Proof[msm.Free]{A: r.element(&m), S: r.element(&m), T1: r.element(&m), T2: r.element(&m), TauX: k[3], Mu: k[4], That: k[5], L: r.list(&m, 4)[:2], R: r.list(&m, 4)[:2], Ea: k[6], Eb: k[7]}
	r.given = r.scalars(&m, 9)[:7]
	r.stream = m.Bytes(64*12 + 100)[:64*12]
	r.bytes = make([]api.Bytes32, 4)[:2]
	r.sent = make([]byte, roomParams().Length()+50)[:roomParams().Length()]
	return r
}

func wholeOf[T any](list []T) []T { return list[:cap(list)] }

func sameFrees(a, b []msm.Free) bool {
	return slices.EqualFunc(a, b, func(a, b msm.Free) bool { return slices.Equal(a.K, b.K) })
}

func sameTapes(a, b ranges.Tape) bool {
	return a.Alpha == b.Alpha && a.Rho == b.Rho && a.Tau1 == b.Tau1 && a.Tau2 == b.Tau2 && slices.Equal(a.SL, b.SL) && slices.Equal(a.SR, b.SR)
}

// lists: all lists of a room, whole.
func (r *room) lists() (elements [][]msm.Free, scalars [][]scalar.Scalar) {
	elements = [][]msm.Free{r.set.G, r.set.H, r.v, r.proof.L, r.proof.R}
	scalars = [][]scalar.Scalar{r.tape.SL, r.tape.SR, r.view.L, r.view.R, r.given}
	for i := range elements {
		elements[i] = wholeOf(elements[i])
	}
	for i := range scalars {
		scalars[i] = wholeOf(scalars[i])
	}
	return elements, scalars
}

// same: do two rooms hold the same, in all places?
func (r *room) same(s *room) bool {
	elements, scalars := r.lists()
	others, numbers := s.lists()
	single := func(r *room) []msm.Free {
		return []msm.Free{r.set.B, r.set.Blind, r.set.Q, r.view.A, r.view.S, r.view.T1, r.view.T2, r.proof.A, r.proof.S, r.proof.T1, r.proof.T2}
	}
	return slices.EqualFunc(elements, others, sameFrees) && slices.EqualFunc(scalars, numbers, slices.Equal[[]scalar.Scalar]) &&
		slices.EqualFunc(r.elements, s.elements, slices.Equal[[]scalar.Scalar]) && sameFrees(single(r), single(s)) &&
		slices.Equal(wholeOf(r.vs), wholeOf(s.vs)) && bytes.Equal(wholeOf(r.stream), wholeOf(s.stream)) &&
		slices.Equal(wholeOf(r.bytes), wholeOf(s.bytes)) && bytes.Equal(wholeOf(r.sent), wholeOf(s.sent))
}

// spoil: other things everywhere.
func (r *room) spoil() {
	elements, scalars := r.lists()
	for _, list := range append(scalars, r.elements...) {
		for i := range list {
			list[i] = scalar.Int(999)
		}
	}
	for _, list := range elements {
		clear(list)
	}
	for j := range wholeOf(r.vs) {
		wholeOf(r.vs)[j] = ranges.Opening{V: 3, Blind: scalar.Int(999)}
	}
	for i := range wholeOf(r.stream) {
		wholeOf(r.stream)[i] ^= 0xff
	}
}

// answers: all that the calls hand out, of this room.
type answers struct {
	scalars  [][]scalar.Scalar
	elements [][]msm.Free
	terms    []msm.Term[msm.Free]
	bytes    []byte
	bytes32  []api.Bytes32
}

func (r *room) script() transcript.Oracle { return transcript.Given(r.given...) }

func (r *room) answer(t *testing.T) answers {
	t.Helper()
	p, a := roomParams(), answers{}
	keep := func(what string, e api.Errno) {
		t.Helper()
		errno(t, what, e, api.OK)
	}
	tape, e := ranges.ReadTape(p, r.stream)
	keep("ReadTape", e)
	prover, begun, first, e := ranges.Begin(r.set, p, r.vs, r.tape)
	keep("Begin", e)
	_, e = prover.Middle(r.given[0], r.given[1])
	keep("Middle", e)
	view, e := prover.Finish(r.given[2])
	keep("Finish", e)
	keep("Accepts", ranges.Accepts(r.set, p, begun, view))
	errno(t, "Accepts", ranges.Accepts(r.set, p, r.v, r.view), api.ErrFirst)
	q, s, h, e := ranges.Statement(r.set, p, r.view, r.given[3])
	keep("Statement", e)
	v, x, e := ranges.Prove(r.set, p, r.vs, r.tape, r.script())
	keep("Prove", e)
	keep("Rounds", ranges.Rounds(r.set, p, v, x, r.script()))
	errno(t, "Rounds", ranges.Rounds(r.set, p, r.v, r.proof, r.script()), api.ErrFirst)
	one, two, c, e := ranges.Sides(r.set, p, r.v, r.proof, r.script())
	keep("Sides", e)
	a.terms, e = ranges.Terms(r.set, p, r.v, r.proof, r.script())
	keep("Terms", e)
	if yes, _ := ranges.Once(r.set, p, r.v, r.proof, r.script()); yes {
		t.Error("Once: true")
	}
	list, proof, e := ranges.ProveBytes(p, "room", r.vs, r.stream)
	keep("ProveBytes", e)
	errno(t, "Explain", ranges.Explain(p, "room", r.bytes, r.sent), api.ErrFirst)
	if ranges.VerifyBytes(p, "room", r.bytes, r.sent) {
		t.Error("VerifyBytes: true")
	}
	a.bytes, a.bytes32 = proof, append(list, ranges.Commit(r.vs...)...)

	a.scalars = [][]scalar.Scalar{tape.SL, tape.SR, {tape.Alpha, tape.Rho, tape.Tau1, tape.Tau2}, view.L, view.R, {view.TauX, view.Mu, view.That, x.TauX, x.Mu, x.That, x.Ea, x.Eb, c}}
	a.elements = [][]msm.Free{begun, {first.A, first.S}, {view.T1, view.T2}, {q, s}, h, v, {x.A, x.S, x.T1, x.T2}, x.L, x.R, {one, two}}
	return a
}

// same: are two answers the same?
func (a answers) same(b answers) bool {
	return slices.EqualFunc(a.scalars, b.scalars, slices.Equal[[]scalar.Scalar]) && slices.EqualFunc(a.elements, b.elements, sameFrees) &&
		slices.EqualFunc(a.terms, b.terms, func(a, b msm.Term[msm.Free]) bool { return a.K == b.K && slices.Equal(a.P.K, b.P.K) }) &&
		bytes.Equal(a.bytes, b.bytes) && slices.Equal(a.bytes32, b.bytes32)
}

// spoil: other things everywhere, the room behind them too, but within elements that were handed on.
func (a answers) spoil() {
	fill := func(list []scalar.Scalar) {
		for i := range wholeOf(list) {
			wholeOf(list)[i] = scalar.Int(888)
		}
	}
	for _, list := range a.scalars {
		fill(list)
	}
	for _, list := range a.elements {
		for _, p := range wholeOf(list) {
			fill(p.K)
		}
		clear(wholeOf(list))
	}
	clear(wholeOf(a.terms))
	clear(wholeOf(a.bytes))
	clear(wholeOf(a.bytes32))
}

func TestHandedInIsLeft(t *testing.T) {
	r := newRoom()
	a := r.answer(t)
	if !r.same(newRoom()) {
		t.Fatal("a call has changed what was handed in")
	}
	a.spoil()
	if !r.same(newRoom()) {
		t.Fatal("what is written into an answer is seen in what was handed in")
	}
}

func TestHandedInIsNotKept(t *testing.T) {
	r := newRoom()
	a, b := r.answer(t), newRoom().answer(t)
	r.spoil()
	a.terms, b.terms = nil, nil // their elements are handed on
	if !a.same(b) {
		t.Error("what is written into what was handed in is seen in an answer")
	}
	b = newRoom().answer(t)
	newRoom().answer(t).spoil()
	if !b.same(newRoom().answer(t)) {
		t.Error("what is written into one answer is seen in another")
	}
}

// No two places of what is handed out are one.
func TestAnswersAreApart(t *testing.T) {
	a := newRoom().answer(t)
	lists := a.scalars
	frees := map[*msm.Free]int{}
	count := 0
	for _, list := range a.elements {
		for i := range wholeOf(list) {
			frees[&wholeOf(list)[i]]++
			count++
		}
		for _, p := range list {
			lists = append(lists, p.K)
		}
	}
	if len(frees) != count {
		t.Errorf("%d elements' places of %d are shared", count-len(frees), count)
	}
	seen := map[*scalar.Scalar]int{}
	count = 0
	for _, list := range lists {
		for i := range wholeOf(list) {
			seen[&wholeOf(list)[i]]++
			count++
		}
	}
	if len(seen) != count {
		t.Errorf("%d places of %d are shared", count-len(seen), count)
	}
}

// Between its moves all that a prover was handed is written over, and so are the lists and scalars of its views.
func TestP1302AProverKeepsItsOwn(t *testing.T) {
	p := roomParams()
	moves := func(between func(r *room, w *ranges.View[msm.Free])) ranges.View[msm.Free] {
		r := newRoom()
		y, z, x := r.given[0], r.given[1], r.given[2]
		prover, _, w, e := ranges.Begin(r.set, p, r.vs, r.tape)
		errno(t, "Begin", e, api.OK)
		between(r, &w)
		w, e = prover.Middle(y, z)
		errno(t, "Middle", e, api.OK)
		between(r, &w)
		w, e = prover.Finish(x)
		errno(t, "Finish", e, api.OK)
		return w
	}
	want := moves(func(*room, *ranges.View[msm.Free]) {})
	got := moves(func(r *room, w *ranges.View[msm.Free]) {
		r.spoil()
		*w = ranges.View[msm.Free]{A: r.set.B, S: r.set.B, T1: r.set.Q, T2: r.set.Q, Y: num(0), Z: num(0)}
	})
	if !sameFrees([]msm.Free{got.A, got.S, got.T1, got.T2}, []msm.Free{want.A, want.S, want.T1, want.T2}) ||
		got.Y != want.Y || got.Z != want.Z || got.X != want.X || got.TauX != want.TauX || got.Mu != want.Mu || got.That != want.That ||
		!slices.Equal(got.L, want.L) || !slices.Equal(got.R, want.R) {
		t.Errorf("%v, want %v", got, want)
	}
}

// The terms' elements are those that were handed in, each in one term.
func TestP1308ElementsOfTermsAreHandedOn(t *testing.T) {
	r := newRoom()
	terms, e := ranges.Terms(r.set, roomParams(), r.v, r.proof, r.script())
	errno(t, "Terms", e, api.OK)
	at := map[*scalar.Scalar]int{}
	for _, term := range terms {
		at[&term.P.K[0]]++
	}
	x := r.proof
	handed := slices.Concat([]msm.Free{r.set.B, r.set.Blind, r.set.Q, x.A, x.S, x.T1, x.T2}, r.set.G, r.set.H, r.v, x.L, x.R)
	for i, p := range handed {
		if at[&p.K[0]] != 1 {
			t.Errorf("element %d stands in %d terms", i, at[&p.K[0]])
		}
	}
	if len(terms) != len(handed) {
		t.Errorf("%d terms of %d elements", len(terms), len(handed))
	}
}

// Generators from N on are not looked at, whatever they are.
func TestGeneratorsBehindAreNotLookedAt(t *testing.T) {
	r, s := newRoom(), newRoom()
	s.set.G, s.set.H = wholeOf(s.set.G)[:6], wholeOf(s.set.H)[:5]
	if !r.answer(t).same(s.answer(t)) {
		t.Error("more generators make another answer")
	}
	for _, list := range [][]msm.Free{s.set.G[4:], s.set.H[4:]} {
		clear(list)
	}
	if !r.answer(t).same(s.answer(t)) {
		t.Error("other generators behind make another answer")
	}
}

// nil and empty lists are the same.
func TestNilAndEmpty(t *testing.T) {
	v, x := exampleProof(t)
	for _, list := range [][]msm.Line{nil, {}} {
		x.L, x.R = list, nil
		errno(t, "Rounds", ranges.Rounds(exampleSet(), exampleParams(), v, x, transcript.Given(nums(1, 2, 1, 1, 1)...)), api.OK)
		if yes, _ := ranges.Once(exampleSet(), exampleParams(), v, x, transcript.Given(nums(1, 2, 1, 1, 1)...)); !yes {
			t.Error("Once: false")
		}
	}
	for _, vs := range [][]ranges.Opening{nil, {}} {
		_, _, e := ranges.ProveBytes(exampleParams(), "", vs, nil)
		errno(t, "ProveBytes", e, api.ErrLength)
		if len(ranges.Commit(vs...)) != 0 {
			t.Error("Commit of none")
		}
	}
}

// Over a type that is no group all calls end.
func TestNoGroup(t *testing.T) {
	p := api.Params{Bits: 2, Count: 1}
	for n := range 32 {
		a := []sample.Wild{sample.Wild(n), 1, 2, sample.Wild(3 * n)}
		g := gens.Set[sample.Wild]{B: a[0], Blind: a[1], Q: a[3], G: a, H: a}
		tape := ranges.Tape{SL: nums(1, 2), SR: nums(3, int64(n))}
		r, v, _, _ := ranges.Begin(g, p, []ranges.Opening{{V: 3}}, tape)
		_, _ = r.Middle(num(1), num(2))
		w, _ := r.Finish(num(3))
		ranges.Accepts(g, p, v, w)
		ranges.Statement(g, p, w, num(4))
		v, x, _ := ranges.Prove(g, p, []ranges.Opening{{V: 3}}, tape, transcript.New("wild"))
		ranges.Rounds(g, p, v, x, transcript.New("wild"))
		ranges.Sides(g, p, v, x, transcript.New("wild"))
		ranges.Terms(g, p, v, x, transcript.New("wild"))
		ranges.Once(g, p, v, x, transcript.New("wild"))
	}
}
