package circuit_test

// P1903, P1904: how systems are built, what there is, clones.

import (
	"fmt"
	"testing"

	"veil/api"
	"veil/circuit"
	"veil/sample"
	"veil/scalar"
)

func TestP1903New(t *testing.T) {
	for _, n := range []int{-1 << 63, -17, -1, 17, 18, 1 << 32, 1<<63 - 1} {
		if s, e := circuit.New(n); s != nil || e != api.ErrArg {
			t.Errorf("New(%d): %v, %d", n, s, e)
		}
	}
	for n := range 17 {
		p := newPair(t, n)
		if p.system.Values() != n || p.system.Gates() != n || p.system.Requires() != n {
			t.Errorf("New(%d) has something else", n)
		}
		for j := range n {
			x, e := p.system.Requirement(j)
			errno(t, "Requirement", e, api.OK)
			is(t, fmt.Sprintf("New(%d), requirement %d", n, j), x, term(1, left(j)), term(-1, value(j)))
		}
	}
}

// full: a system with so many gates and requirements, and what it must be.
func full(t testing.TB, values, gates, requires int) pair {
	t.Helper()
	p := newPair(t, values)
	for p.model.gates < gates {
		p.model.gate()
		if _, _, _, e := p.system.Gate(); e != api.OK {
			t.Fatalf("Gate: %d", e)
		}
	}
	for n := 0; len(p.model.requires) < requires; n++ {
		a := circuit.Const(scalar.Int(uint64(n % 3)))
		p.model.require(a)
		if e := p.system.Require(a); e != api.OK {
			t.Fatalf("Require: %d", e)
		}
	}
	p.same(t, "full")
	return p
}

func TestP1903Gate(t *testing.T) {
	for _, values := range []int{0, 1, 16} {
		p := newPair(t, values)
		for k := values; k < api.MaxGates; k++ {
			l, r, o, e := p.system.Gate()
			p.model.gate()
			wantWires(t, "Gate", l, r, o, e, k, api.OK)
		}
		p.same(t, "MaxGates")
		for range 3 {
			errno(t, "one more", p.gate(t, "one more"), api.ErrFull)
		}
		errno(t, "a requirement", p.require(t, "a requirement", circuit.Of(out(api.MaxGates-1))), api.OK)
	}
}

// Wires at the edges of what is there, by themselves, among others, with factors that fall out.
func TestP1903Wires(t *testing.T) {
	for _, size := range []struct{ values, gates int }{{0, 0}, {0, 1}, {1, 1}, {1, 3}, {16, 16}, {3, 1024}} {
		p := full(t, size.values, size.gates, 0)
		wires := append(strange(), unit, left(-1), circuit.Wire{Kind: 1, I: 1}, circuit.Wire{Kind: 1, I: -1})
		for kind := 0; kind <= 6; kind++ {
			for _, i := range []int{-1, 0, size.values - 1, size.values, size.gates - 1, size.gates, size.gates + 1} {
				wires = append(wires, circuit.Wire{Kind: kind, I: i})
			}
		}
		for _, w := range wires {
			what := fmt.Sprint(size, ": ", w)
			want := api.OK
			if !p.model.there(w) {
				want = api.ErrWire
			}
			q := p.clone(t, what)
			errno(t, what, q.require(t, what, circuit.Of(w)), want)
			errno(t, what, q.require(t, what, circuit.Lin{term(3, unit), term(5, w), term(4, unit)}), want)
			errno(t, what, q.require(t, what, circuit.Lin{term(0, w), term(5, w), term(1, unit), term(-5, w)}), api.OK)
			if size.gates < api.MaxGates {
				fine := circuit.Const(num(9))
				errno(t, what, q.multiply(t, what, fine, circuit.Lin{term(7, w), {Wire: w, K: sample.Scalars(sample.NumberOf(num(-7)))[5]}}), api.OK)
				q = p.clone(t, what)
				errno(t, what, q.multiply(t, what, circuit.Of(w), fine), want)
				q = p.clone(t, what)
				errno(t, what, q.multiply(t, what, fine, circuit.Of(w)), want)
				q = p.clone(t, what)
				errno(t, what, q.multiply(t, what, circuit.Of(w), circuit.Of(w)), want)
			}
		}
	}
}

// The gate that Multiply is about to make: its wires are not there yet, but they may fall out.
func TestP1903MultiplyOwnWires(t *testing.T) {
	for _, values := range []int{0, 2} {
		p := somePair(t, new(sample.Maker), values, 9)
		for _, w := range []circuit.Wire{left(p.model.gates), right(p.model.gates), out(p.model.gates)} {
			errno(t, "a", p.multiply(t, "a", circuit.Of(w), nil), api.ErrWire)
			errno(t, "b", p.multiply(t, "b", nil, circuit.Of(w).Times(num(-1))), api.ErrWire)
		}
		k := p.model.gates
		errno(t, "fallen out", p.multiply(t, "fallen out", circuit.Lin{term(1, left(k)), term(-1, left(k))}, circuit.Lin{term(0, right(k))}), api.OK)
		for i, w := range []circuit.Wire{left(k), right(k)} {
			x, _ := p.system.Requirement(p.system.Requires() - 2 + i)
			is(t, "fallen out", x, term(1, w))
		}
		errno(t, "it is there now", p.multiply(t, "it is there now", circuit.Of(out(k)), circuit.Of(left(k))), api.OK)
	}
}

// Multiply is a Gate, a Require of left less a, and then one of right less b.
func TestP1903MultiplyIsRequire(t *testing.T) {
	maker := sample.Maker(1903)
	for values := range 5 {
		p := somePair(t, &maker, values, 8)
		for range 10 {
			a, b := p.model.someLin(&maker, 5, false), p.model.someLin(&maker, 7, false)
			q := p.clone(t, "the other way")
			p.multiply(t, "Multiply", a, b)
			l, r, _, e := q.system.Gate()
			errno(t, "Gate", e, api.OK)
			errno(t, "left", q.system.Require(circuit.Of(l).Sub(a)), api.OK)
			errno(t, "right", q.system.Require(circuit.Of(r).Sub(b)), api.OK)
			pair{q.system, p.model}.same(t, "the other way")
		}
	}
}

func TestP1903RequireFull(t *testing.T) {
	for _, values := range []int{0, 16} {
		p := full(t, values, 20, api.MaxRequires-1)
		errno(t, "the last", p.require(t, "the last", circuit.Of(left(0))), api.OK)
		for _, a := range []circuit.Lin{nil, circuit.Of(left(0)), circuit.Const(num(3))} {
			errno(t, "one more", p.require(t, "one more", a), api.ErrFull)
		}
		errno(t, "one more, of a wire that is not there", p.require(t, "one more", circuit.Of(left(20))), api.ErrWire)
		errno(t, "a gate", p.gate(t, "a gate"), api.OK)
	}
}

func TestP1903MultiplyFull(t *testing.T) {
	fine, none := circuit.Of(left(0)), circuit.Of(left(1024))
	for _, requires := range []int{api.MaxRequires - 3, api.MaxRequires - 2, api.MaxRequires - 1, api.MaxRequires} {
		for _, gates := range []int{5, api.MaxGates - 1, api.MaxGates} {
			p := full(t, 1, gates, requires)
			what := fmt.Sprintf("%d gates, %d requirements", gates, requires)
			for _, c := range [][2]circuit.Lin{{none, fine}, {fine, none}, {none, none}} {
				errno(t, what, p.multiply(t, what, c[0], c[1]), api.ErrWire)
			}
			want := api.OK
			if gates == api.MaxGates || requires > api.MaxRequires-2 {
				want = api.ErrFull
			}
			errno(t, what, p.multiply(t, what, fine, fine), want)
		}
	}
}

// Requirements are kept as they come: such as are there already, such as nobody can meet, such without terms.
func TestP1903Again(t *testing.T) {
	p := newPair(t, 2)
	first, _ := p.system.Requirement(0)
	for _, a := range []circuit.Lin{first, first, nil, {}, circuit.Const(num(1)), {term(0, left(77))}, first.Times(num(2))} {
		errno(t, "Require", p.require(t, "Require", a), api.OK)
	}
	if p.system.Requires() != 9 {
		t.Errorf("%d requirements", p.system.Requires())
	}
}

// Any calls, in any order.
func TestP1903AnyCalls(t *testing.T) {
	maker := sample.Maker(5)
	for values := range 17 {
		somePair(t, &maker, values, 60)
	}
}

func TestP1904Requirement(t *testing.T) {
	p := example(t)
	for _, i := range []int{-1 << 63, -1, 3, 4, 1 << 32, 1<<63 - 1} {
		x, e := p.system.Requirement(i)
		errno(t, fmt.Sprintf("Requirement(%d)", i), e, api.ErrArg)
		is(t, "beside an error", x)
	}
	for i := range 3 {
		x, e := p.system.Requirement(i)
		errno(t, fmt.Sprintf("Requirement(%d)", i), e, api.OK)
		wantLin(t, "a requirement", x, p.model.requires[i])
	}
	none := newPair(t, 0)
	_, e := none.system.Requirement(0)
	errno(t, "of none", e, api.ErrArg)
}

// Clones, and clones of clones, go their own way: each is held against a copy of its own behind every call on any of them.
func TestP1904Clones(t *testing.T) {
	maker := sample.Maker(1904)
	for values := range 4 {
		pairs := []pair{newPair(t, values)}
		for range 60 {
			at := maker.Next() % uint64(len(pairs))
			if len(pairs) < 8 && maker.Next()%4 == 0 {
				pairs = append(pairs, pairs[at].clone(t, "a clone"))
			} else {
				pairs[at].someCall(t, &maker)
			}
			for _, p := range pairs {
				p.same(t, "behind a call on any of them")
			}
		}
	}
}

// However many requirements there are, the next one of a clone does not fall where the other's does.
func TestP1904CloneRoom(t *testing.T) {
	p := newPair(t, 1)
	for n := range 70 {
		q := p.clone(t, "a clone")
		for i, other := range []pair{p, q, q, p} {
			other.require(t, "Require", circuit.Const(num(int64(4*n+i+1))))
		}
		p.same(t, "the first")
		q.same(t, "the clone")
		r := q.clone(t, "a clone of the clone")
		q.multiply(t, "Multiply", nil, circuit.Of(unit))
		r.multiply(t, "Multiply", circuit.Of(unit), nil)
		q.same(t, "the clone")
		p.same(t, "the first")
	}
}

// A clone of a system at its limits is at them, too.
func TestP1904CloneFull(t *testing.T) {
	p := full(t, 16, api.MaxGates, api.MaxRequires)
	q := p.clone(t, "a clone")
	errno(t, "Gate", q.gate(t, "Gate"), api.ErrFull)
	errno(t, "Require", q.require(t, "Require", nil), api.ErrFull)
	errno(t, "Multiply", q.multiply(t, "Multiply", nil, nil), api.ErrFull)
}
