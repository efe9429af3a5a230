package circuit_test

// P1901: nil systems and such as nobody made; the document's rules: what is handed in is left alone and not kept, what is handed out is new.

import (
	"bytes"
	"fmt"
	"slices"
	"testing"

	"veil/api"
	"veil/circuit"
	"veil/sample"
	"veil/scalar"
)

// A nil System, and one that nobody made: ErrArg, whatever else is wrong.
func TestP1901NoSystem(t *testing.T) {
	fits := circuit.Assignment{}
	wrong := circuit.Assignment{L: nums(1), V: nums(2, 3)}
	for what, s := range map[string]*circuit.System{"nil": nil, "zero": {}, "new": new(circuit.System)} {
		for range 2 { // and it stays so
			l, r, o, e := s.Gate()
			wantWires(t, what+": Gate", l, r, o, e, 0, api.ErrArg)
			for _, a := range []circuit.Lin{nil, circuit.Const(num(0)), circuit.Of(unit), circuit.Of(left(0)), circuit.Of(left(-1))} {
				l, r, o, e = s.Multiply(a, nil)
				wantWires(t, what+": Multiply", l, r, o, e, 0, api.ErrArg)
				l, r, o, e = s.Multiply(nil, a)
				wantWires(t, what+": Multiply", l, r, o, e, 0, api.ErrArg)
				errno(t, what+": Require", s.Require(a), api.ErrArg)
				for _, b := range []circuit.Assignment{fits, wrong} {
					n, e := s.Eval(b, a)
					errno(t, what+": Eval", e, api.ErrArg)
					if n != (scalar.Scalar{}) {
						t.Errorf("%s: Eval tells %v", what, n)
					}
				}
			}
			errno(t, what+": Holds", s.Holds(fits), api.ErrArg)
			errno(t, what+": Holds", s.Holds(wrong), api.ErrArg)
			for _, i := range []int{-1, 0, 1} {
				x, e := s.Requirement(i)
				errno(t, what+": Requirement", e, api.ErrArg)
				is(t, what+": Requirement", x)
			}
			for _, z := range nums(0, 1, 2) {
				w, e := s.Flatten(z)
				errno(t, what+": Flatten", e, api.ErrArg)
				if !sameWeights(w, circuit.Weights{}) {
					t.Errorf("%s: Flatten tells %v", what, w)
				}
			}
			if s.Gates() != 0 || s.Values() != 0 || s.Requires() != 0 || s.Clone() != nil || s.Encode() != nil {
				t.Errorf("%s: something is told", what)
			}
		}
	}
}

// A system of nothing is one all the same.
func TestP1901SystemOfNothing(t *testing.T) {
	s, _ := circuit.New(0)
	errno(t, "Holds", s.Holds(circuit.Assignment{}), api.OK)
	if s.Clone() == nil || len(s.Encode()) != 3 {
		t.Errorf("it counts as none")
	}
	back, e := circuit.Decode([]byte{0, 0, 0})
	errno(t, "Decode", e, api.OK)
	errno(t, "Require", back.Require(nil), api.OK)
	errno(t, "Require", s.Clone().Require(nil), api.OK)
}

// With an error the system stays as it was: all errors of all calls, one behind the other.
func TestP1901StaysAsItWas(t *testing.T) {
	p := full(t, 2, api.MaxGates, api.MaxRequires-1)
	q := full(t, 2, 7, api.MaxRequires)
	for _, p := range []pair{p, q} {
		none := circuit.Of(out(api.MaxGates))
		p.multiply(t, "Multiply", none, nil)
		p.multiply(t, "Multiply", nil, none)
		p.multiply(t, "Multiply", nil, nil)
		p.require(t, "Require", none)
		p.eval(t, "Eval", circuit.Assignment{}, none)
		p.holds(t, "Holds", circuit.Assignment{})
		p.same(t, "behind the errors")
	}
	p.gate(t, "Gate")
	q.require(t, "Require", nil)
	// And it goes on from there.
	errno(t, "Require", p.require(t, "Require", circuit.Of(left(1023))), api.OK)
	errno(t, "Gate", q.gate(t, "Gate"), api.OK)
}

// behind: the list with others behind it, in its spare room.
func behind[T any](list []T, others ...T) []T {
	return append(append(make([]T, 0, len(list)+len(others)), list...), others...)[:len(list)]
}

// whole: a list with the room behind it.
func whole[T any](list []T) []T { return list[:cap(list)] }

// handed: all that calls are handed.
type handed struct {
	a, b       circuit.Lin
	assignment circuit.Assignment
	bytes      []byte
}

func newHanded(t testing.TB) handed {
	t.Helper()
	three := sample.Scalars(sample.NumberOf(num(3)))[4]
	h := handed{
		a:     behind(circuit.Lin{term(5, value(0)), {Wire: left(1), K: three}, term(-5, value(0)), term(1, unit)}, term(9, left(0)), term(8, unit)),
		b:     behind(circuit.Lin{term(1, out(0)), term(0, left(0)), term(1, out(0))}, term(7, out(1))),
		bytes: behind(example(t).system.Encode(), 1, 2, 3),
	}
	g := good()
	g.L[0] = three
	h.assignment = circuit.Assignment{L: behind(g.L, nums(1, 2)...), R: behind(g.R, nums(3)...), O: behind(g.O, nums(4)...), V: behind(g.V, nums(5, 6)...)}
	return h
}

// state: all of it, the room behind it too.
func (h handed) state() string {
	a := h.assignment
	return fmt.Sprint(whole(h.a), whole(h.b), whole(a.L), whole(a.R), whole(a.O), whole(a.V), whole(h.bytes))
}

// spoil: writes over all of it.
func (h handed) spoil() {
	for _, list := range []circuit.Lin{h.a, h.b} {
		for i := range whole(list) {
			whole(list)[i] = term(77, out(1))
		}
	}
	for _, list := range [][]scalar.Scalar{h.assignment.L, h.assignment.R, h.assignment.O, h.assignment.V} {
		for i := range whole(list) {
			whole(list)[i] = num(88)
		}
	}
	for i := range whole(h.bytes) {
		whole(h.bytes)[i] ^= 255
	}
}

// built: a system that all of it went into, and what else was answered.
func (h handed) built(t testing.TB) (*circuit.System, []circuit.Lin, string) {
	t.Helper()
	s, e := circuit.Decode(h.bytes)
	errno(t, "Decode", e, api.OK)
	n, e := s.Eval(h.assignment, h.a)
	holds := s.Holds(h.assignment)
	answers := fmt.Sprint(n, e, holds, s.Require(h.a), s.Require(h.b))
	l, r, o, e := s.Multiply(h.a, h.b)
	answers += fmt.Sprint(l, r, o, e, s.Require(circuit.Of(o).Sub(h.b)))
	lins := []circuit.Lin{h.a.Add(h.b), h.a.Sub(h.b), h.b.Sub(h.a), h.a.Times(num(3)), h.a.Least(), h.a.Add(nil), circuit.Lin(nil).Add(h.b), h.b.Times(num(1)), h.b.Least()}
	return s, lins, answers
}

// told: all that a system tells.
func told(s *circuit.System) string {
	all := fmt.Sprint(s.Values(), s.Gates(), s.Requires(), s.Encode())
	for i := range s.Requires() {
		x, _ := s.Requirement(i)
		all += fmt.Sprint(x)
	}
	w, e := s.Flatten(num(5))
	return all + fmt.Sprint(w, e)
}

func TestP1901HandedInIsLeft(t *testing.T) {
	h := newHanded(t)
	before := h.state()
	s, lins, answers := h.built(t)
	if h.state() != before {
		t.Errorf("what was handed in is changed")
	}
	again, others, more := h.built(t)
	if told(s) != told(again) || fmt.Sprint(lins) != fmt.Sprint(others) || answers != more || h.state() != before {
		t.Errorf("a second time all is otherwise")
	}
	// Nor is it where there are errors.
	s, _ = circuit.New(0)
	s.Require(h.a)
	s.Multiply(h.a, h.b)
	s.Multiply(h.b, h.a)
	s.Eval(h.assignment, h.a)
	s.Holds(h.assignment)
	circuit.Decode(h.bytes[:20])
	circuit.Decode(whole(h.bytes))
	if h.state() != before {
		t.Errorf("what was handed in is changed where there is an error")
	}
}

// What is written over behind a call changes nothing.
func TestP1901NothingIsKept(t *testing.T) {
	h := newHanded(t)
	s, lins, _ := h.built(t)
	before := told(s) + fmt.Sprint(lins)
	h.spoil()
	if told(s)+fmt.Sprint(lins) != before {
		t.Errorf("what was handed in is kept")
	}
}

// spoilLin: writes into a sum and behind it.
func spoilLin(a circuit.Lin) {
	_ = append(a, term(55, right(1)))
	for i := range whole(a) {
		whole(a)[i] = term(66, unit)
	}
}

// Whoever writes into what was answered, or appends to it, changes nothing else.
func TestP1901HandedOutIsNew(t *testing.T) {
	h := newHanded(t)
	s, lins, _ := h.built(t)
	clone := s.Clone()
	back, _ := circuit.Decode(s.Encode())
	first, second := s.Encode(), s.Encode()
	x, _ := s.Requirement(1)
	w, _ := s.Flatten(num(5))
	before := func() string { return h.state() + told(s) + told(clone) + told(back) }
	kept, weights, terms := before(), fmt.Sprint(w), slices.Clone(x)
	spoiled := func(what string) {
		t.Helper()
		if before() != kept || fmt.Sprint(w) != weights || !slices.Equal(x, terms) || !bytes.Equal(first, second) {
			t.Fatalf("%s: what was written into an answer is seen elsewhere", what)
		}
	}
	for i := range s.Requires() {
		for _, system := range []*circuit.System{s, clone, back} {
			y, _ := system.Requirement(i)
			spoilLin(y)
			spoiled("Requirement")
		}
	}
	for i, a := range lins {
		others := fmt.Sprint(lins[i+1:])
		spoilLin(a)
		spoiled("a sum")
		if fmt.Sprint(lins[i+1:]) != others {
			t.Errorf("two sums share memory")
		}
	}
	b := s.Encode()
	_ = append(b, 9)
	clear(whole(b))
	spoiled("Encode")
	other, _ := s.Flatten(num(5))
	lists := [][]scalar.Scalar{other.L, other.R, other.O, other.V}
	for i, list := range lists {
		rest := fmt.Sprint(lists[i+1:])
		_ = append(list, num(1), num(2), num(3))
		for j := range whole(list) {
			whole(list)[j] = num(44)
		}
		spoiled("Flatten")
		if fmt.Sprint(lists[i+1:]) != rest {
			t.Errorf("two lists of Flatten share memory")
		}
	}
	spoilLin(circuit.Of(left(0)))
	spoilLin(circuit.Const(num(3)))
	is(t, "Of", circuit.Of(left(0)), term(1, left(0)))
	is(t, "Const", circuit.Const(num(3)), term(3, unit))
}

// A sum that is in its least form already is told by new memory all the same.
func TestP1901LeastIsNew(t *testing.T) {
	a := circuit.Lin(behind(circuit.Lin{term(1, unit), term(2, left(0))}, term(3, left(1))))
	for _, b := range []circuit.Lin{a.Least(), a.Add(nil), a.Sub(nil), a.Times(num(1)), circuit.Lin(nil).Add(a)} {
		is(t, "as it was", b, a...)
		spoilLin(b)
		is(t, "the sum that was handed in", a[:3], term(1, unit), term(2, left(0)), term(3, left(1)))
	}
}

// Lists that are nil and such that are empty are the same.
func TestP1901NilAndEmpty(t *testing.T) {
	for _, none := range []circuit.Lin{nil, {}, make(circuit.Lin, 0, 5)} {
		p := newPair(t, 1)
		errno(t, "Require", p.require(t, "Require", none), api.OK)
		errno(t, "Multiply", p.multiply(t, "Multiply", none, none), api.OK)
		is(t, "Least", none.Least())
		is(t, "Times", none.Times(num(3)))
		is(t, "Add", none.Add(circuit.Of(unit)), term(1, unit))
		is(t, "Sub", circuit.Of(unit).Sub(none), term(1, unit))
		x, e := p.system.Requirement(1)
		errno(t, "Requirement", e, api.OK)
		is(t, "Requirement", x)
	}
	for _, none := range [][]scalar.Scalar{nil, {}} {
		p := newPair(t, 0)
		a := circuit.Assignment{L: none, R: none, O: none, V: none}
		errno(t, "Holds", p.holds(t, "Holds", a), api.OK)
		errno(t, "Eval", p.eval(t, "Eval", a, circuit.Const(num(4))), api.OK)
	}
	for _, none := range [][]byte{nil, {}} {
		errno(t, "Decode", decode(t, "Decode", none), api.ErrSystem)
	}
}

// The kinds in the bytes are api's.
func TestP1905Kinds(t *testing.T) {
	for i, kind := range []int{api.WireOne, api.WireLeft, api.WireRight, api.WireOut, api.WireValue} {
		p := newPair(t, 1)
		w := circuit.Wire{Kind: kind}
		errno(t, "Require", p.require(t, "Require", circuit.Of(w)), api.OK)
		if b := p.system.Encode(); b[73] != byte(i+1) || b[74] != 0 {
			t.Errorf("kind %d: %v", kind, b[72:])
		}
	}
}
