package gadget_test

// The document's rules: what is handed in is left alone and not kept, what is handed out is new; lists that are nil and such that are empty.

import (
	"fmt"
	"slices"
	"testing"

	"veil/api"
	"veil/circuit"
	"veil/gadget"
	"veil/sample"
	"veil/scalar"
)

// behind: the list with others behind it, in its spare room.
func behind[T any](list []T, others ...T) []T {
	return append(append(make([]T, 0, len(list)+len(others)), list...), others...)[:len(list)]
}

// whole: a list with the room behind it.
func whole[T any](list []T) []T { return list[:cap(list)] }

// looseLin: a sum that is not in its least form, by other limbs, with room behind it; its number is that of the value.
func looseLin(v int) circuit.Lin {
	other := circuit.Term{Wire: value(v), K: sample.Scalars(sample.NumberOf(num(3)))[5]}
	return behind(circuit.Lin{other, term(5, out(77)), term(-2, value(v)), term(-5, out(77)), term(0, left(0))}, term(9, unit), term(8, left(0)))
}

// looseSums: a list of such with room behind it.
func looseSums(count int) []circuit.Lin {
	var list []circuit.Lin
	for i := range count {
		list = append(list, looseLin(i%2))
	}
	return behind(list, looseLin(0), looseLin(1), number(66))
}

// stateOf: sums, and the room behind them and behind their list.
func stateOf(sums []circuit.Lin) string {
	text := ""
	for _, x := range whole(sums) {
		text += fmt.Sprint(whole(x), len(x))
	}
	return text
}

func spoilLin(x circuit.Lin) {
	for i := range whole(x) {
		whole(x)[i] = term(77, out(1))
	}
}

func spoilSums(sums []circuit.Lin) {
	for i, x := range whole(sums) {
		spoilLin(x)
		whole(sums)[i] = number(55)
	}
}

func spoilScalars(list []scalar.Scalar) {
	for i := range whole(list) {
		whole(list)[i] = num(44)
	}
}

// looseCall: a call of which what is handed in can be spoiled.
type looseCall struct {
	call  call
	state func() string
	spoil func()
}

// looseCalls: of each piece, handing in loose sums.
func looseCalls() []looseCall {
	var list []looseCall
	add := func(make func(xs []circuit.Lin) call, count int) {
		sums := looseSums(count)
		list = append(list, looseCall{make(sums), func() string { return stateOf(sums) }, func() { spoilSums(sums) }})
	}
	for _, k := range kinds() {
		add(func(xs []circuit.Lin) call { return k.call(xs...) }, k.sums)
	}
	for n := range 4 {
		add(func(xs []circuit.Lin) call { return productCall(xs...) }, n)
		xs, ys := looseSums(n), looseSums(n)
		list = append(list, looseCall{shuffleCall(xs, ys, num(7)), func() string { return stateOf(xs) + stateOf(ys) }, func() { spoilSums(xs); spoilSums(ys) }})
	}
	set := behind(append(nums(1, 2), sample.Words(sample.L())), nums(3, 4)...)
	x := looseLin(0)
	list = append(list, looseCall{memberCall(x, set), func() string { return fmt.Sprint(whole(set), whole(x)) }, func() { spoilScalars(set); spoilLin(x) }})
	return list
}

// What is handed in stays as it is, with the room behind it, and is not kept.
func TestP2001HandedIn(t *testing.T) {
	for _, c := range looseCalls() {
		for _, values := range [][]int64{{3, 5}, {0, 1}} {
			p := small(t, values...)
			was := c.state()
			p.ok(t, c.call)
			if c.state() != was {
				t.Fatalf("%s: what was handed in has changed", c.call.name)
			}
		}
	}
	for _, c := range looseCalls() {
		p := small(t, 3, 5)
		p.ok(t, c.call)
		a, _ := p.known.Assignment()
		c.spoil()
		for i, d := range p.both() {
			if string(d.System().Encode()) != string(p.model.bytes()) {
				t.Errorf("%s: desk %d keeps what it was handed", c.call.name, i)
			}
		}
		if b, _ := p.known.Assignment(); !sameAssignment(a, b) {
			t.Errorf("%s: the own assignment is another", c.call.name)
		}
	}
}

// The same where the call ends in an error, and of Number.
func TestP2001HandedInRefused(t *testing.T) {
	full := room(t, 0, 0)
	for _, c := range looseCalls() {
		was := c.state()
		full.run(t, c.call)
		for _, x := range c.call.sums {
			full.known.Number(x)
			full.unknown.Number(x)
		}
		none := newDesks(t)
		none.run(t, c.call)
		for _, d := range []*gadget.Desk{nil, {}} {
			c.call.do(d)
		}
		if c.state() != was {
			t.Fatalf("%s: what was handed in has changed", c.call.name)
		}
	}
}

func TestP2002HandedIn(t *testing.T) {
	values := behind(append(nums(3, 5), sample.Words(sample.L())), nums(7, 8)...)
	was := fmt.Sprint(whole(values))
	p := newDesks(t, values...)
	p.ok(t, multiplyCall(of(value(0)), of(value(1))))
	if fmt.Sprint(whole(values)) != was {
		t.Error("what was handed in has changed")
	}
	spoilScalars(values)
	p.same(t, "the values are not kept")
	p.told(t, "value 0", of(value(0)), 3)
	p.ok(t, notZeroCall(of(value(0))))
}

// spoilAnswers: writes over all of the answers, and behind them.
func spoilAnswers(answers []circuit.Lin) {
	for _, x := range answers {
		_ = append(x, term(1, unit), term(2, unit))
	}
	_ = append(answers, number(1), number(2))
	spoilSums(answers)
}

// What is handed out is new memory each time, and no two sums of one answer share any.
func TestP2001HandedOut(t *testing.T) {
	for _, k := range kinds() {
		p := small(t, 3, 5)
		sums := sumsOf(k)
		was := stateOf(sums)
		c := k.call(sums...)
		var kept []circuit.Lin
		for _, d := range p.both() {
			answers, e := c.do(d)
			errno(t, k.name, e, api.OK)
			kept = nil
			for _, x := range answers {
				kept = append(kept, slices.Clone(x))
			}
			for i, x := range answers {
				rest := fmt.Sprint(answers[:i], answers[i+1:])
				_ = append(x, term(1, unit))
				spoilLin(x)
				if fmt.Sprint(answers[:i], answers[i+1:]) != rest {
					t.Errorf("%s: two sums of one answer share memory", k.name)
				}
			}
			spoilAnswers(answers)
			if stateOf(sums) != was {
				t.Errorf("%s: the answer is what was handed in", k.name)
			}
		}
		c.built(p.model)
		p.pieces = append(p.pieces, added{c, kept})
		p.same(t, k.name)
		p.ok(t, c)
	}
}

func TestP2003HandedOut(t *testing.T) {
	p := small(t, 3, 5)
	for _, k := range kinds() {
		p.ok(t, k.call(sumsOf(k)...))
	}
	for _, d := range p.both() {
		x, _ := d.Value(0)
		spoilAnswers([]circuit.Lin{x})
		x, _ = d.Value(0)
		if !slices.Equal(x, of(value(0))) {
			t.Errorf("Value(0) is %v", x)
		}
		s := d.System()
		s.Gate()
		errno(t, "Require", s.Require(number(1)), api.OK)
		s.Multiply(nil, nil)
		p.same(t, "behind what was done to the system's copy")
		if d.System() == d.System() {
			t.Error("two copies are one")
		}
		b := d.System().Encode()
		clear(b)
		p.same(t, "behind what was done to the system's bytes")
	}
	a, _ := p.known.Assignment()
	lists := [][]scalar.Scalar{a.L, a.R, a.O, a.V}
	for i, list := range lists {
		rest := fmt.Sprint(lists[:i], lists[i+1:])
		_ = append(list, num(1), num(2))
		spoilScalars(list)
		if fmt.Sprint(lists[:i], lists[i+1:]) != rest {
			t.Error("two lists of the assignment share memory")
		}
		p.same(t, "behind what was done to the assignment's copy")
	}
	p.ok(t, multiplyCall(of(out(2)), of(out(3))))
}

// What was handed out stays what it was while the desk goes on.
func TestP2003StaysAsToldThen(t *testing.T) {
	p := small(t, 3, 5)
	type told struct {
		system *circuit.System
		bytes  string
		a      circuit.Assignment
		text   string
	}
	var all []told
	for _, k := range kinds() {
		p.ok(t, k.call(sumsOf(k)...))
		a, _ := p.known.Assignment()
		s := p.known.System()
		all = append(all, told{s, string(s.Encode()), a, fmt.Sprint(a)})
	}
	for i, x := range all {
		if string(x.system.Encode()) != x.bytes || fmt.Sprint(x.a) != x.text {
			t.Errorf("what was told behind call %d is another now", i)
		}
		if e := x.system.Holds(x.a); e == api.ErrLength || e == api.ErrGate {
			t.Errorf("the own assignment behind call %d: %d", i, e)
		}
	}
}

// Two desks do not see one another.
func TestP2001TwoDesks(t *testing.T) {
	maker := sample.Maker(21)
	list := []*desks{small(t, 3, 5), small(t, 3, 5), small(t), small(t, 1, 2, 3)}
	for range 60 {
		p := list[pick(&maker, len(list))]
		p.run(t, p.model.someCall(&maker))
		for _, q := range list {
			q.same(t, "behind a call on any of them")
		}
	}
}

// Lists that are nil and such that are empty are the same.
func TestP2001NilAndEmpty(t *testing.T) {
	for _, none := range []circuit.Lin{nil, {}, make(circuit.Lin, 0, 5), {term(0, left(9))}} {
		p := small(t, 3, 5)
		for _, k := range kinds() {
			p.ok(t, k.call(slices.Repeat([]circuit.Lin{none}, k.sums)...))
		}
		p.number(t, "Number", none, zeros(1)[0])
	}
	for _, none := range [][]circuit.Lin{nil, {}, make([]circuit.Lin, 0, 5)} {
		p := small(t, 3, 5)
		p.ok(t, productCall(none...))
		p.ok(t, shuffleCall(none, nil, num(1)))
		p.ok(t, shuffleCall(nil, none, num(1)))
		p.refused(t, shuffleCall(none, []circuit.Lin{nil}, num(1)), api.ErrLength)
		p.more(t, "nothing was added", 0, 0)
	}
	for _, none := range [][]scalar.Scalar{nil, {}, make([]scalar.Scalar, 0, 5)} {
		p := newDesks(t, none...)
		p.refused(t, memberCall(number(1), none), api.ErrArg)
	}
}
