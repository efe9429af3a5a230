package gadget_test

// P2001: wires that are not there, the order of errors, and systems that are full: all of a piece, or nothing.

import (
	"fmt"
	"slices"
	"testing"

	"veil/api"
	"veil/circuit"
	"veil/sample"
)

// strange: wires that are in no system.
func strange() []circuit.Wire {
	return []circuit.Wire{
		{}, {Kind: 1, I: 1}, {Kind: 1, I: -1}, {Kind: 6}, {Kind: -1}, {Kind: 2, I: -1}, {Kind: 3, I: -1 << 63}, {Kind: 4, I: 1<<63 - 1},
		{Kind: 5, I: -1}, {Kind: 5, I: 16}, {Kind: 2, I: 1024}, {Kind: 1<<63 - 1, I: 1<<63 - 1}, {Kind: -1 << 63, I: -1 << 63}, {Kind: 258},
	}
}

// Each sum of each piece is looked at, and looked at by its least form.
func TestP2001Wires(t *testing.T) {
	for values := range 3 {
		for _, k := range kinds() {
			p := small(t, []int64{3, 5}[:values]...)
			p.ok(t, multiplyCall(number(2), number(3)))
			wires := append(strange(), left(values+1), right(values+1), out(values+1), value(values))
			for at := range k.sums {
				for _, w := range wires {
					sums := slices.Repeat([]circuit.Lin{of(out(values))}, k.sums)
					sums[at] = of(w)
					p.refused(t, k.call(sums...), api.ErrWire)
					sums[at] = circuit.Lin{term(3, unit), term(5, w), term(0, w), term(4, unit), term(-4, w)}
					p.refused(t, k.call(sums...), api.ErrWire)
				}
				p.more(t, "nothing was added", 1, 2)
			}
			// All that falls out need not be there.
			falls := circuit.Lin{term(3, unit)}
			for _, w := range wires {
				falls = append(falls, term(0, w), term(5, w), circuit.Term{Wire: w, K: sample.Scalars(sample.NumberOf(num(-5)))[3]})
			}
			p.ok(t, k.call(slices.Repeat([]circuit.Lin{falls}, k.sums)...))
		}
	}
}

// Sums that take one another away are looked at each by itself.
func TestP2001WiresOfEachSum(t *testing.T) {
	p := small(t, 3, 5)
	x, bad := of(value(0)), of(left(9))
	both := []circuit.Lin{bad, x}
	for _, c := range []call{
		equalCall(bad, bad), chooseCall(x, bad, bad), chooseCall(nil, x, bad), chooseCall(bad, nil, nil), lessCall(bad, bad, 3), multiplyCall(bad, nil),
		multiplyCall(nil, bad), productCall(bad), productCall(nil, nil, bad), powerCall(bad, 0), powerCall(bad, 1), shuffleCall(both, both, num(1)), shuffleCall([]circuit.Lin{x, x}, both, num(1)),
	} {
		p.refused(t, c, api.ErrWire)
	}
	// The wires of gates that the piece itself adds are not there yet.
	for _, w := range []circuit.Wire{left(2), right(2), out(2), out(3)} {
		for _, c := range []call{productCall(x, x, of(w)), multiplyCall(x, of(w)), shuffleCall([]circuit.Lin{x, x}, []circuit.Lin{x, of(w)}, num(1)), lessCall(x, of(w), 2), chooseCall(x, x, of(w)), bitsCall(of(w), 2), notZeroCall(of(w))} {
			p.refused(t, c, api.ErrWire)
		}
	}
	p.more(t, "nothing was added", 0, 0)
}

// fast: a call that stands whatever the values are, done without holding the desks against what they must be.
func (p *desks) fast(t testing.TB, c call) {
	t.Helper()
	_, e := c.do(p.known)
	_, f := c.do(p.unknown)
	c.built(p.model)
	if e != api.OK || f != api.OK || p.model.full {
		t.Fatalf("%.200s: %d, %d", c.name, e, f)
	}
}

// room: desks with room for so many gates and requirements.
func room(t testing.TB, gates, requires int) *desks {
	t.Helper()
	p := small(t, 1, 0)
	p.fast(t, productCall(slices.Repeat([]circuit.Lin{of(unit)}, api.MaxGates-gates-1)...))
	return p.leave(t, gates, requires)
}

// leave: the same desks, filled until there is room for no more than so many gates and requirements.
func (p *desks) leave(t testing.TB, gates, requires int) *desks {
	t.Helper()
	for p.model.gates < api.MaxGates-gates {
		p.fast(t, multiplyCall(nil, nil))
	}
	for len(p.model.requires) < api.MaxRequires-requires {
		p.fast(t, zeroCall(nil))
	}
	p.same(t, "nearly full")
	if s := p.unknown.System(); s.Gates() != api.MaxGates-gates || s.Requires() != api.MaxRequires-requires {
		t.Fatalf("%d gates, %d requirements", s.Gates(), s.Requires())
	}
	return p
}

// copy: others that go on from here.
func (p *desks) copy() *desks {
	return &desks{p.known.Copy(), p.unknown.Copy(), p.model.clone(), slices.Clone(p.pieces)}
}

// sumsOf: what a piece is asked about where only the room counts.
func sumsOf(k kind) []circuit.Lin {
	return slices.Repeat([]circuit.Lin{of(value(0)), of(value(1))}, 3)[:k.sums]
}

// step: each piece for which the room is too small is refused; one for which it is just enough is added to a copy, and then it is too small for the least.
func (p *desks) step(t testing.TB, gates, requires int) {
	t.Helper()
	for _, k := range kinds() {
		c := k.call(sumsOf(k)...)
		if k.gates > gates || k.rules > requires {
			p.refused(t, c, api.ErrFull)
			continue
		}
		if k.gates == gates && gates > 0 {
			q := p.copy()
			q.ok(t, c)
			q.refused(t, multiplyCall(nil, nil), api.ErrFull)
		}
		if k.rules == requires && requires > 0 {
			q := p.copy()
			q.ok(t, c)
			q.refused(t, zeroCall(nil), api.ErrFull)
		}
	}
}

// Gates that run out at each step of each piece.
func TestP2001GatesRunOut(t *testing.T) {
	p := room(t, 6, 2000)
	for gates := 6; gates >= 0; gates-- {
		p.step(t, gates, 100)
		if gates > 0 {
			p.ok(t, multiplyCall(of(value(0)), of(value(0))))
		}
	}
	p.ok(t, zeroCall(nil))
	p.ok(t, productCall(of(value(0))))
}

// Requirements that run out at each step of each piece.
func TestP2001RequirementsRunOut(t *testing.T) {
	p := room(t, 400, 15)
	for requires := 15; requires >= 0; requires-- {
		p.step(t, 400, requires)
		p.refused(t, bitsCall(nil, 252), api.ErrFull)
		p.refused(t, lessCall(nil, nil, 130), api.ErrFull)
		if requires > 0 {
			p.ok(t, zeroCall(of(value(1))))
		}
	}
	p.ok(t, productCall(of(value(0))))
}

// Both are nearly at their end: each piece has room just if there is enough of both.
func TestP2001BothRunOut(t *testing.T) {
	first := room(t, 3, 13)
	for gates := range 4 {
		p := first.copy().leave(t, gates, 7)
		for requires := 7; requires >= 0; requires-- {
			p.step(t, gates, requires)
			if requires > 0 {
				p.ok(t, zeroCall(nil))
			}
		}
	}
}

// Pieces that want more than any system has, and lists far longer than that.
func TestP2001TooMuch(t *testing.T) {
	p := small(t, 3, 5)
	x := of(value(0)).Add(of(value(1)))
	many := slices.Repeat([]circuit.Lin{x}, 100000)
	set := slices.Repeat(nums(1), 1000000)
	for _, d := range p.both() {
		_, e := d.Product(many...)
		errno(t, "Product", e, api.ErrFull)
		errno(t, "Member", d.Member(x, set), api.ErrFull)
		errno(t, "Shuffle", d.Shuffle(many, many, num(1)), api.ErrFull)
		// What is wrong with the last of many is found ahead of that.
		many[len(many)-1] = of(left(2))
		_, e = d.Product(many...)
		errno(t, "Product", e, api.ErrWire)
		errno(t, "Shuffle", d.Shuffle(many[:50000], many[50000:], num(1)), api.ErrWire)
		errno(t, "Shuffle", d.Shuffle(many, many[1:], num(1)), api.ErrLength)
		many[len(many)-1] = x
	}
	p.same(t, "behind these")
	// As many as there is room for: 2 gates are there.
	p.ok(t, productCall(many[:1023]...))
	p.refused(t, multiplyCall(nil, nil), api.ErrFull)
	p = small(t, 3, 5)
	p.refused(t, productCall(many[:1024]...), api.ErrFull)
	p.refused(t, memberCall(x, set[:1024]), api.ErrFull)
	p.ok(t, memberCall(x, set[:1023]))
	p = small(t, 3, 5)
	p.refused(t, shuffleCall(many[:513], many[:513], num(1)), api.ErrFull)
	p.ok(t, shuffleCall(many[:512], many[:512], num(1)))
	p = small(t, 3, 5)
	for range 4 {
		p.ok(t, bitsCall(x, 252))
	}
	p.refused(t, lessCall(nil, nil, 5), api.ErrFull)
	p.refused(t, bitsCall(x, 15), api.ErrFull)
	p.ok(t, bitsCall(x, 14))
}

// A sum of very many terms, and a great set: each difference is made when its turn comes.
func TestP2001LongSums(t *testing.T) {
	p := small(t, 3, 5)
	p.fast(t, productCall(slices.Repeat([]circuit.Lin{of(unit)}, 1000)...))
	var long circuit.Lin
	for i := range p.model.gates {
		long = append(long, term(int64(i+1), left(i)), term(int64(i+2), right(i)), term(int64(i+3), out(i)))
	}
	lists := slices.Repeat([]circuit.Lin{long}, 30)
	set := slices.Repeat(nums(1, 2), 500000)
	for _, d := range p.both() {
		errno(t, "Member", d.Member(long, set), api.ErrFull)
		errno(t, "Shuffle", d.Shuffle(lists, lists, num(1)), api.ErrFull)
	}
	p.ok(t, equalCall(long, long.Add(number(1))))
	p.ok(t, multiplyCall(long, long))
}

// Several things are wrong at one time: the error that is named first is the answer.
func TestP2001Order(t *testing.T) {
	full := room(t, 0, 0)
	p := small(t, 3, 5)
	fine, bad := of(value(0)), of(left(1024))
	for _, d := range []*desks{p, full} {
		for _, x := range []circuit.Lin{fine, bad} {
			for _, c := range []call{
				powerCall(x, -1), powerCall(x, -1<<63), bitsCall(x, 0), bitsCall(x, -1), bitsCall(x, 253), bitsCall(x, 1<<63-1), bitsCall(x, -1<<63), memberCall(x, nil),
				lessCall(x, fine, 0), lessCall(fine, x, 252), lessCall(x, x, -1), lessCall(x, x, 1<<63-1), lessCall(x, x, -1<<63),
			} {
				d.refused(t, c, api.ErrArg)
			}
			one, two := []circuit.Lin{x}, []circuit.Lin{x, fine}
			d.refused(t, shuffleCall(one, two, num(1)), api.ErrLength)
			d.refused(t, shuffleCall(two, one, num(1)), api.ErrLength)
			d.refused(t, shuffleCall(nil, one, num(1)), api.ErrLength)
			d.refused(t, shuffleCall(one, nil, num(1)), api.ErrLength)
		}
		for _, k := range kinds() {
			d.refused(t, k.call(slices.Repeat([]circuit.Lin{bad}, k.sums)...), api.ErrWire)
		}
	}
	for _, k := range kinds() {
		if k.rules > 0 {
			full.refused(t, k.call(sumsOf(k)...), api.ErrFull)
		} else {
			full.ok(t, k.call(sumsOf(k)...))
		}
	}
	full.ok(t, shuffleCall(nil, nil, num(1)))
	full.ok(t, productCall())
}

// An error is followed by calls that go on as if it had not been.
func TestP2001GoesOn(t *testing.T) {
	maker := sample.Maker(2001)
	p := room(t, 8, 30)
	for i := range 60 {
		x := p.model.someLin(&maker, i%3 == 0)
		for _, c := range []call{lessCall(x, of(value(0)), 6), bitsCall(x, 9), productCall(slices.Repeat([]circuit.Lin{x}, 12)...)} {
			if _, e := p.run(t, c); e != api.ErrFull && e != api.ErrWire {
				t.Fatalf("%s: %d", c.name, e)
			}
		}
		if i%10 == 0 {
			p.run(t, multiplyCall(x, of(value(0))))
			p.run(t, notZeroCall(of(unit)))
		}
		p.number(t, fmt.Sprint("behind errors ", i), of(value(0)), p.model.own[value(0)])
	}
}
