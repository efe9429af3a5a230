package arith_test

// The document's rules: what is handed in is left alone and not kept, what is handed out is new; types that are no group.

import (
	"bytes"
	"slices"
	"testing"

	"veil/api"
	"veil/arith"
	"veil/circuit"
	"veil/gens"
	"veil/msm"
	"veil/sample"
	"veil/scalar"
	"veil/transcript"
)

// room: all that calls are handed, over Free, with others behind them: 4 places, 2 rounds, 3 gates, 2 values.
type room struct {
	set      gens.Set[msm.Free]
	system   *circuit.System
	a        circuit.Assignment
	blinds   []scalar.Scalar
	tape     arith.Tape
	v        []msm.Free
	view     arith.View[msm.Free]
	proof    arith.Proof[msm.Free]
	given    []scalar.Scalar
	stream   []byte
	bytes    []api.Bytes32
	sent     []byte
	elements [][]scalar.Scalar // all scalars of elements, with the room behind them
	plain    bool              // all scalars that are made up are 1
}

func (r *room) scalars(m *sample.Maker, count int) []scalar.Scalar {
	list := make([]scalar.Scalar, count)
	for i := range list {
		list[i] = sample.Words(sample.Number(m.Bytes(32)))
		if r.plain {
			list[i] = scalar.Int(1)
		}
	}
	return list
}

func (r *room) element(m *sample.Maker) msm.Free {
	whole := r.scalars(m, 5)
	r.elements = append(r.elements, whole)
	return msm.Free{K: whole[:3]}
}

func (r *room) list(m *sample.Maker, count int) []msm.Free {
	var list []msm.Free
	for range count {
		list = append(list, r.element(m))
	}
	return list
}

// newRoom: all lists have their right lengths, and two more behind them.
func newRoom(plain bool) *room {
	m := sample.Maker(2100)
	r := &room{plain: plain}
	r.set = gens.Set[msm.Free]{B: r.element(&m), Blind: r.element(&m), Q: r.element(&m), G: r.list(&m, 6)[:4], H: r.list(&m, 6)[:4]}
	r.system, _ = circuit.New(2)
	left, right := circuit.Of(circuit.Wire{Kind: api.WireLeft}), circuit.Of(circuit.Wire{Kind: api.WireLeft, I: 1})
	r.system.Multiply(left, right)
	numbers := r.scalars(&m, 2)
	product := numbers[0].Mul(numbers[1])
	padded := func(list ...scalar.Scalar) []scalar.Scalar {
		return append(list, scalar.Int(5), scalar.Int(6))[:len(list)]
	}
	r.a = circuit.Assignment{L: padded(numbers[0], numbers[1], numbers[0]), R: padded(scalar.Int(0), scalar.Int(1), numbers[1]), O: padded(scalar.Int(0), numbers[1], product), V: padded(numbers...)}
	k := r.scalars(&m, 12)
	r.blinds, r.v = r.scalars(&m, 4)[:2], r.list(&m, 4)[:2]
	r.tape = arith.Tape{Alpha: k[0], Beta: k[1], Rho: k[2], Tau1: k[3], Tau3: k[4], Tau4: k[5], Tau5: k[6], Tau6: k[7], SL: r.scalars(&m, 6)[:4], SR: r.scalars(&m, 6)[:4]}
	some := r.list(&m, 16)
	r.view = arith.View[msm.Free]{AI: some[0], AO: some[1], S: some[2], T1: some[3], T3: some[4], T4: some[5], T5: some[6], T6: some[7], Y: k[0], Z: k[1], X: k[2], TauX: k[3], Mu: k[4], That: k[5], L: r.scalars(&m, 6)[:4], R: r.scalars(&m, 6)[:4]}
	r.proof = arith.Proof[msm.Free]{AI: some[8], AO: some[9], S: some[10], T1: some[11], T3: some[12], T4: some[13], T5: some[14], T6: some[15], TauX: k[3], Mu: k[4], That: k[5], L: r.list(&m, 4)[:2], R: r.list(&m, 4)[:2], Ea: k[6], Eb: k[7]}
	r.given = r.scalars(&m, 9)[:7]
	r.stream = m.Bytes(64*16 + 100)[:64*16]
	r.bytes = make([]api.Bytes32, 4)[:2]
	r.sent = make([]byte, 544+50)[:544]
	return r
}

func wholeOf[T any](list []T) []T { return list[:cap(list)] }

func sameFrees(a, b []msm.Free) bool {
	return slices.EqualFunc(a, b, func(a, b msm.Free) bool { return slices.Equal(a.K, b.K) })
}

func viewElements(w arith.View[msm.Free]) []msm.Free {
	return []msm.Free{w.AI, w.AO, w.S, w.T1, w.T3, w.T4, w.T5, w.T6}
}

func proofElements(x arith.Proof[msm.Free]) []msm.Free {
	return []msm.Free{x.AI, x.AO, x.S, x.T1, x.T3, x.T4, x.T5, x.T6}
}

// lists: all lists of a room, whole.
func (r *room) lists() (elements [][]msm.Free, scalars [][]scalar.Scalar) {
	elements = [][]msm.Free{r.set.G, r.set.H, r.v, r.proof.L, r.proof.R}
	scalars = [][]scalar.Scalar{r.a.L, r.a.R, r.a.O, r.a.V, r.blinds, r.tape.SL, r.tape.SR, r.view.L, r.view.R, r.given}
	for i := range elements {
		elements[i] = wholeOf(elements[i])
	}
	for i := range scalars {
		scalars[i] = wholeOf(scalars[i])
	}
	return elements, scalars
}

// same: do two rooms hold the same, in all places?
func (r *room) same(s *room) bool {
	elements, scalars := r.lists()
	others, numbers := s.lists()
	single := func(r *room) []msm.Free {
		return slices.Concat([]msm.Free{r.set.B, r.set.Blind, r.set.Q}, viewElements(r.view), proofElements(r.proof))
	}
	return slices.EqualFunc(elements, others, sameFrees) && slices.EqualFunc(scalars, numbers, slices.Equal[[]scalar.Scalar]) &&
		slices.EqualFunc(r.elements, s.elements, slices.Equal[[]scalar.Scalar]) && sameFrees(single(r), single(s)) &&
		bytes.Equal(r.system.Encode(), s.system.Encode()) && bytes.Equal(wholeOf(r.stream), wholeOf(s.stream)) &&
		slices.Equal(wholeOf(r.bytes), wholeOf(s.bytes)) && bytes.Equal(wholeOf(r.sent), wholeOf(s.sent))
}

// spoil: other things everywhere.
func (r *room) spoil() {
	elements, scalars := r.lists()
	for _, list := range append(scalars, r.elements...) {
		for i := range list {
			list[i] = scalar.Int(999)
		}
	}
	for _, list := range elements {
		clear(list)
	}
	for _, b := range [][]byte{r.stream, r.sent} {
		for i := range wholeOf(b) {
			wholeOf(b)[i] ^= 0xff
		}
	}
	clear(wholeOf(r.bytes))
	r.system.Gate()
	r.system.Require(circuit.Const(scalar.Int(7)))
}

// answers: all that the calls hand out, of this room.
type answers struct {
	scalars  [][]scalar.Scalar
	elements [][]msm.Free
	bytes    [][]byte
	bytes32  []api.Bytes32
}

func (r *room) script() transcript.Oracle { return transcript.Given(r.given...) }

func (r *room) answer(t *testing.T) answers {
	t.Helper()
	var a answers
	keep := func(what string, e api.Errno) {
		t.Helper()
		errno(t, what, e, api.OK)
	}
	if n := arith.Size(r.system); n != 4 {
		t.Errorf("Size: %d", n)
	}
	tape, e := arith.ReadTape(r.system, r.stream)
	keep("ReadTape", e)
	played, view, e := arith.Play(r.set, r.system, r.a, r.blinds, r.tape, r.given[0], r.given[1], r.given[2])
	keep("Play", e)
	keep("Accepts", arith.Accepts(r.set, r.system, played, view))
	arith.Accepts(r.set, r.system, r.v, r.view)
	about, e := arith.Statement(r.set, r.system, r.view, r.given[3])
	keep("Statement", e)
	v, x, e := arith.Prove(r.set, r.system, r.a, r.blinds, r.tape, r.script())
	keep("Prove", e)
	keep("Rounds", arith.Rounds(r.set, r.system, v, x, r.script()))
	arith.Rounds(r.set, r.system, r.v, r.proof, r.script())
	one, two, c, e := arith.Sides(r.set, r.system, r.v, r.proof, r.script())
	keep("Sides", e)
	arith.Once(r.set, r.system, r.v, r.proof, r.script())
	encoded, e := arith.EncodeProof(r.proof)
	keep("EncodeProof", e)
	decoded, e := arith.DecodeProof[msm.Line](r.sent)
	keep("DecodeProof", e)
	list, proof, e := arith.ProveBytes(r.system, "room", r.a, r.blinds, r.stream)
	keep("ProveBytes", e)
	arith.Explain(r.system, "room", r.bytes, r.sent)
	arith.VerifyBytes(r.system, "room", r.bytes, r.sent)
	a.bytes, a.bytes32 = [][]byte{encoded, proof}, list

	a.scalars = [][]scalar.Scalar{
		tape.SL, tape.SR, {tape.Alpha, tape.Beta, tape.Rho, tape.Tau1, tape.Tau3, tape.Tau4, tape.Tau5, tape.Tau6},
		view.L, view.R, {view.TauX, view.Mu, view.That, x.TauX, x.Mu, x.That, x.Ea, x.Eb, c}, {decoded.TauX, decoded.L[0].K, decoded.R[1].K},
	}
	a.elements = [][]msm.Free{played, viewElements(view), {about.P, about.Q}, about.G, about.H, v, proofElements(x), x.L, x.R, {one, two}}
	return a
}

// same: are two answers the same?
func (a answers) same(b answers) bool {
	return slices.EqualFunc(a.scalars, b.scalars, slices.Equal[[]scalar.Scalar]) && slices.EqualFunc(a.elements, b.elements, sameFrees) &&
		slices.EqualFunc(a.bytes, b.bytes, bytes.Equal) && slices.Equal(a.bytes32, b.bytes32)
}

// spoil: other things everywhere, the room behind them too.
func (a answers) spoil() {
	fill := func(list []scalar.Scalar) {
		for i := range wholeOf(list) {
			wholeOf(list)[i] = scalar.Int(888)
		}
	}
	for _, list := range a.scalars {
		fill(list)
	}
	for _, list := range a.elements {
		for _, p := range wholeOf(list) {
			fill(p.K)
		}
		clear(wholeOf(list))
	}
	for _, b := range a.bytes {
		clear(wholeOf(b))
	}
	clear(wholeOf(a.bytes32))
}

func TestHandedInIsLeft(t *testing.T) {
	for _, plain := range []bool{false, true} {
		r := newRoom(plain)
		a := r.answer(t)
		if !r.same(newRoom(plain)) {
			t.Fatal("a call has changed what was handed in")
		}
		a.spoil()
		if !r.same(newRoom(plain)) {
			t.Fatal("what is written into an answer is seen in what was handed in")
		}
	}
}

func TestHandedInIsNotKept(t *testing.T) {
	for _, plain := range []bool{false, true} {
		r := newRoom(plain)
		a, b := r.answer(t), newRoom(plain).answer(t)
		r.spoil()
		if !a.same(b) {
			t.Error("what is written into what was handed in is seen in an answer")
		}
		newRoom(plain).answer(t).spoil()
		if !b.same(newRoom(plain).answer(t)) {
			t.Error("what is written into one answer is seen in another")
		}
	}
}

// No two places of what is handed out are one, and what is appended to a list is not seen in another.
func TestAnswersAreApart(t *testing.T) {
	for _, plain := range []bool{false, true} {
		a := newRoom(plain).answer(t)
		lists := a.scalars
		frees := map[*msm.Free]int{}
		count := 0
		for _, list := range a.elements {
			for i := range wholeOf(list) {
				frees[&wholeOf(list)[i]]++
				count++
			}
			for _, p := range list {
				lists = append(lists, p.K)
			}
		}
		if len(frees) != count {
			t.Errorf("%d elements' places of %d are shared", count-len(frees), count)
		}
		seen := map[*scalar.Scalar]int{}
		count = 0
		for _, list := range lists {
			for i := range wholeOf(list) {
				seen[&wholeOf(list)[i]]++
				count++
			}
		}
		if len(seen) != count {
			t.Errorf("%d places of %d are shared", count-len(seen), count)
		}
	}
}

// An element that is the sum of one generator alone is no generator's own memory.
func TestSumsOfOneElement(t *testing.T) {
	s := gated(0, 1)
	g, _ := gens.Basis(1)
	tape := arith.Tape{Alpha: num(0), Beta: num(0), Rho: num(0), SL: nums(0), SR: nums(1)}
	_, w, e := arith.Play(g, s, circuit.Assignment{L: nums(1), R: nums(0), O: nums(0)}, nil, tape, num(1), num(1), num(1))
	errno(t, "Play", e, api.OK)
	about, e := arith.Statement(g, s, w, num(1))
	errno(t, "Statement", e, api.OK)
	if !w.AI.Same(g.G[0]) || !w.S.Same(g.H[0]) || !about.Q.Same(g.Q) || !about.H[0].Same(g.H[0]) || !about.G[0].Same(g.G[0]) {
		t.Fatal("they are others")
	}
	for _, p := range []msm.Free{w.AI, w.S, about.Q, about.H[0], about.G[0]} {
		for i := range wholeOf(p.K) {
			wholeOf(p.K)[i] = num(77)
		}
	}
	if again, _ := gens.Basis(1); !sameFrees(gens.All(g), gens.All(again)) {
		t.Error("what is written into an answer is seen in a generator")
	}
}

// Generators from N on are not looked at, whatever they are.
func TestGeneratorsBehindAreNotLookedAt(t *testing.T) {
	r, s := newRoom(false), newRoom(false)
	s.set.G, s.set.H = wholeOf(s.set.G)[:6], wholeOf(s.set.H)[:5]
	if !r.answer(t).same(s.answer(t)) {
		t.Error("more generators make another answer")
	}
	for _, list := range [][]msm.Free{s.set.G[4:], s.set.H[4:]} {
		clear(list)
	}
	if !r.answer(t).same(s.answer(t)) {
		t.Error("other generators behind make another answer")
	}
}

// nil and empty lists are the same.
func TestNilAndEmpty(t *testing.T) {
	s, none := gated(0, 0), []scalar.Scalar{}
	g := exampleSet()
	tape := arith.Tape{SL: nums(4), SR: nums(5)}
	script := func() transcript.Oracle { return transcript.Given(nums(1, 2, 3, 4, 5)...) }
	for _, a := range []circuit.Assignment{{}, {L: none, R: none, O: none, V: none}} {
		for _, blinds := range [][]scalar.Scalar{nil, none} {
			v, x, e := arith.Prove(g, s, a, blinds, tape, script())
			errno(t, "Prove", e, api.OK)
			if len(v) != 0 || len(x.L) != 0 || len(x.R) != 0 {
				t.Errorf("Prove: %v, %v", v, x)
			}
			for _, v := range [][]msm.Line{nil, {}} {
				for _, list := range [][]msm.Line{nil, {}} {
					x.L, x.R = list, nil
					errno(t, "Rounds", arith.Rounds(g, s, v, x, script()), api.OK)
					if b, e := arith.EncodeProof(x); e != api.OK || len(b) != 416 {
						t.Errorf("EncodeProof: %d bytes, %d", len(b), e)
					}
				}
			}
			_, proof, e := arith.ProveBytes(s, "", a, blinds, make([]byte, 640))
			errno(t, "ProveBytes", e, api.OK)
			for _, v := range [][]api.Bytes32{nil, {}} {
				errno(t, "Explain", arith.Explain(s, "", v, proof), api.OK)
			}
		}
	}
}

// Over a type that is no group all calls end.
func TestNoGroup(t *testing.T) {
	s := exampleSystem()
	s.Gate()
	a := circuit.Assignment{L: nums(3, 4), R: nums(3, 5), O: nums(9, 20), V: nums(3)}
	for n := range 32 {
		some := []sample.Wild{sample.Wild(n), 1, 2, sample.Wild(3 * n)}
		g := gens.Set[sample.Wild]{B: some[0], Blind: some[1], Q: some[3], G: some, H: some}
		tape := arith.Tape{SL: nums(1, 2), SR: nums(3, int64(n))}
		v, w, _ := arith.Play(g, s, a, nums(5), tape, num(1), num(2), num(3))
		arith.Accepts(g, s, v, w)
		arith.Statement(g, s, w, num(4))
		v, x, _ := arith.Prove(g, s, a, nums(5), tape, transcript.New("wild"))
		arith.Rounds(g, s, v, x, transcript.New("wild"))
		arith.Sides(g, s, v, x, transcript.New("wild"))
		arith.Once(g, s, v, x, transcript.New("wild"))
		b, _ := arith.EncodeProof(x)
		arith.DecodeProof[sample.Wild](b)
	}
}
