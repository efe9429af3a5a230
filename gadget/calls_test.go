package gadget_test

// Calls that add to a desk: how each is made, what it must add, and what the piece stands for.

import (
	"bytes"
	"fmt"
	"math/big"
	"slices"
	"testing"

	"veil/api"
	"veil/circuit"
	"veil/gadget"
	"veil/sample"
	"veil/scalar"
)

// call: one that adds to a desk.
type call struct {
	name   string
	wrong  api.Errno     // what is wrong with it on every desk that somebody made
	sums   []circuit.Lin // all that are handed in
	do     func(d *gadget.Desk) ([]circuit.Lin, api.Errno)
	built  func(m *model) []form
	stands func(n func(circuit.Lin) *big.Int, answers []circuit.Lin) bool
}

// single: of a call that answers one sum.
func single(x circuit.Lin, e api.Errno) ([]circuit.Lin, api.Errno) {
	if e != api.OK && x == nil {
		return nil, e
	}
	return []circuit.Lin{x}, e
}

func forms(xs []circuit.Lin) []form {
	list := make([]form, len(xs))
	for i, x := range xs {
		list[i] = formOf(x)
	}
	return list
}

// modProduct: of all sums' numbers, each less the same.
func modProduct(n func(circuit.Lin) *big.Int, xs []circuit.Lin, less *big.Int) *big.Int {
	p := big.NewInt(1)
	for _, x := range xs {
		p = sample.Mod(p.Mul(p, new(big.Int).Sub(n(x), less)))
	}
	return p
}

func product(name string, do func(d *gadget.Desk) (circuit.Lin, api.Errno), xs []circuit.Lin) call {
	return call{
		name:  fmt.Sprint(name, xs),
		sums:  xs,
		do:    func(d *gadget.Desk) ([]circuit.Lin, api.Errno) { return single(do(d)) },
		built: func(m *model) []form { return []form{m.product(forms(xs)...)} },
		stands: func(n func(circuit.Lin) *big.Int, answers []circuit.Lin) bool {
			return n(answers[0]).Cmp(modProduct(n, xs, new(big.Int))) == 0
		},
	}
}

func multiplyCall(x, y circuit.Lin) call {
	return product("Multiply", func(d *gadget.Desk) (circuit.Lin, api.Errno) { return d.Multiply(x, y) }, []circuit.Lin{x, y})
}

func productCall(xs ...circuit.Lin) call {
	return product("Product", func(d *gadget.Desk) (circuit.Lin, api.Errno) { return d.Product(xs...) }, xs)
}

// powerBuilt: by the bits of n, as a text of 0 and 1.
func powerBuilt(m *model, x form, n int) form {
	if n == 0 {
		return wireForm(unit)
	}
	p := x
	for _, bit := range fmt.Sprintf("%b", n)[1:] {
		p = m.multiply(p, p)
		if bit == '1' {
			p = m.multiply(p, x)
		}
	}
	return p
}

func powerCall(x circuit.Lin, n int) call {
	c := call{
		name:  fmt.Sprint("Power", x, n),
		sums:  []circuit.Lin{x},
		do:    func(d *gadget.Desk) ([]circuit.Lin, api.Errno) { return single(d.Power(x, n)) },
		built: func(m *model) []form { return []form{powerBuilt(m, formOf(x), n)} },
		stands: func(number func(circuit.Lin) *big.Int, answers []circuit.Lin) bool {
			return number(answers[0]).Cmp(new(big.Int).Exp(number(x), big.NewInt(int64(n)), sample.L())) == 0
		},
	}
	if n < 0 {
		c.wrong = api.ErrArg
	}
	return c
}

// bare: of a call without answers.
func bare(e api.Errno) ([]circuit.Lin, api.Errno) { return nil, e }

func zeroCall(x circuit.Lin) call {
	return call{
		name:   fmt.Sprint("Zero", x),
		sums:   []circuit.Lin{x},
		do:     func(d *gadget.Desk) ([]circuit.Lin, api.Errno) { return bare(d.Zero(x)) },
		built:  func(m *model) []form { m.require(formOf(x)); return nil },
		stands: func(n func(circuit.Lin) *big.Int, _ []circuit.Lin) bool { return n(x).Sign() == 0 },
	}
}

func equalCall(x, y circuit.Lin) call {
	return call{
		name:   fmt.Sprint("Equal", x, y),
		sums:   []circuit.Lin{x, y},
		do:     func(d *gadget.Desk) ([]circuit.Lin, api.Errno) { return bare(d.Equal(x, y)) },
		built:  func(m *model) []form { m.require(formOf(x).less(formOf(y))); return nil },
		stands: func(n func(circuit.Lin) *big.Int, _ []circuit.Lin) bool { return n(x).Cmp(n(y)) == 0 },
	}
}

// inverse: modulo l; 0 for 0.
func inverse(n *big.Int) *big.Int {
	if n.Sign() == 0 {
		return new(big.Int)
	}
	return new(big.Int).ModInverse(n, sample.L())
}

func notZeroCall(x circuit.Lin) call {
	return call{
		name: fmt.Sprint("NotZero", x),
		sums: []circuit.Lin{x},
		do:   func(d *gadget.Desk) ([]circuit.Lin, api.Errno) { return bare(d.NotZero(x)) },
		built: func(m *model) []form {
			n := m.own.sum(formOf(x))
			k := m.gate(n, inverse(n), new(big.Int).Mul(n, inverse(n)))
			m.require(wireForm(left(k)).less(formOf(x)))
			m.require(wireForm(out(k)).lessOne())
			return nil
		},
		stands: func(n func(circuit.Lin) *big.Int, _ []circuit.Lin) bool { return n(x).Sign() != 0 },
	}
}

func bitCall(x circuit.Lin) call {
	return call{
		name: fmt.Sprint("Bit", x),
		sums: []circuit.Lin{x},
		do:   func(d *gadget.Desk) ([]circuit.Lin, api.Errno) { return bare(d.Bit(x)) },
		built: func(m *model) []form {
			m.require(m.multiply(formOf(x), formOf(x).lessOne()))
			return nil
		},
		stands: func(n func(circuit.Lin) *big.Int, _ []circuit.Lin) bool { return n(x).Cmp(big.NewInt(2)) < 0 },
	}
}

// below: is a number below 2^n?
func below(x *big.Int, n int) bool { return x.BitLen() <= n }

func bitsCall(x circuit.Lin, n int) call {
	c := call{
		name:  fmt.Sprint("Bits", x, n),
		sums:  []circuit.Lin{x},
		do:    func(d *gadget.Desk) ([]circuit.Lin, api.Errno) { return d.Bits(x, n) },
		built: func(m *model) []form { return m.bits(formOf(x), n) },
		stands: func(number func(circuit.Lin) *big.Int, answers []circuit.Lin) bool {
			for i, bit := range answers {
				if number(bit).Cmp(big.NewInt(int64(number(x).Bit(i)))) != 0 {
					return false
				}
			}
			return len(answers) == n && below(number(x), n)
		},
	}
	if n < 1 || n > 252 {
		c.wrong = api.ErrArg
	}
	return c
}

func lessCall(x, y circuit.Lin, n int) call {
	c := call{
		name: fmt.Sprint("Less", x, y, n),
		sums: []circuit.Lin{x, y},
		do:   func(d *gadget.Desk) ([]circuit.Lin, api.Errno) { return bare(d.Less(x, y, n)) },
		built: func(m *model) []form {
			m.bits(formOf(x), n)
			m.bits(formOf(y), n)
			m.bits(formOf(y).less(formOf(x)).lessOne(), n)
			return nil
		},
		stands: func(number func(circuit.Lin) *big.Int, _ []circuit.Lin) bool {
			return below(number(x), n) && below(number(y), n) && number(x).Cmp(number(y)) < 0
		},
	}
	if n < 1 || n > 251 {
		c.wrong = api.ErrArg
	}
	return c
}

func chooseCall(bit, x, y circuit.Lin) call {
	return call{
		name: fmt.Sprint("Choose", bit, x, y),
		sums: []circuit.Lin{bit, x, y},
		do:   func(d *gadget.Desk) ([]circuit.Lin, api.Errno) { return single(d.Choose(bit, x, y)) },
		built: func(m *model) []form {
			return []form{m.multiply(formOf(bit), formOf(x).less(formOf(y))).add(formOf(y))}
		},
		stands: func(n func(circuit.Lin) *big.Int, answers []circuit.Lin) bool {
			switch b := n(bit); {
			case b.Sign() == 0:
				return n(answers[0]).Cmp(n(y)) == 0
			case b.Cmp(big.NewInt(1)) == 0:
				return n(answers[0]).Cmp(n(x)) == 0
			}
			return true
		},
	}
}

func memberCall(x circuit.Lin, set []scalar.Scalar) call {
	c := call{
		name: fmt.Sprint("Member", x, set),
		sums: []circuit.Lin{x},
		do:   func(d *gadget.Desk) ([]circuit.Lin, api.Errno) { return bare(d.Member(x, set)) },
		built: func(m *model) []form {
			var list []form
			for _, s := range set {
				list = append(list, formOf(x).plus(new(big.Int).Neg(sample.NumberOf(s)), wireForm(unit)))
			}
			m.require(m.product(list...))
			return nil
		},
		stands: func(n func(circuit.Lin) *big.Int, _ []circuit.Lin) bool {
			return slices.ContainsFunc(set, func(s scalar.Scalar) bool { return sample.NumberOf(s).Cmp(n(x)) == 0 })
		},
	}
	if len(set) == 0 {
		c.wrong = api.ErrArg
	}
	return c
}

func shuffleCall(xs, ys []circuit.Lin, r scalar.Scalar) call {
	place := sample.NumberOf(r)
	minus := func(xs []circuit.Lin) []form {
		var list []form
		for _, x := range xs {
			list = append(list, formOf(x).plus(new(big.Int).Neg(place), wireForm(unit)))
		}
		return list
	}
	c := call{
		name: fmt.Sprint("Shuffle", xs, ys, r),
		sums: slices.Concat(xs, ys),
		do:   func(d *gadget.Desk) ([]circuit.Lin, api.Errno) { return bare(d.Shuffle(xs, ys, r)) },
		built: func(m *model) []form {
			if len(xs) > 0 {
				first := m.product(minus(xs)...)
				m.require(first.less(m.product(minus(ys)...)))
			}
			return nil
		},
		stands: func(n func(circuit.Lin) *big.Int, _ []circuit.Lin) bool {
			return modProduct(n, xs, place).Cmp(modProduct(n, ys, place)) == 0
		},
	}
	if len(xs) != len(ys) {
		c.wrong = api.ErrLength
	}
	return c
}

// must: what a call must answer, and the desk behind it.
func (m *model) must(c call) (*model, []form, api.Errno) {
	if c.wrong != api.OK {
		return m, nil, c.wrong
	}
	for _, x := range c.sums {
		if !m.allThere(x) {
			return m, nil, api.ErrWire
		}
	}
	next := m.clone()
	answers := c.built(next)
	if next.full {
		return m, nil, api.ErrFull
	}
	return next, answers, api.OK
}

// added: a piece that was added, with what it answered.
type added struct {
	call    call
	answers []circuit.Lin
}

// desks: one that knows and one that does not, and what they must be.
type desks struct {
	known, unknown *gadget.Desk
	model          *model
	pieces         []added
}

func bigs(values []scalar.Scalar) []*big.Int {
	list := make([]*big.Int, len(values))
	for i, v := range values {
		list[i] = sample.NumberOf(v)
	}
	return list
}

func newDesks(t testing.TB, values ...scalar.Scalar) *desks {
	t.Helper()
	d, e := gadget.Known(values...)
	if e != api.OK || d == nil {
		t.Fatalf("Known(%v): %d", values, e)
	}
	u, e := gadget.Unknown(len(values))
	if e != api.OK || u == nil {
		t.Fatalf("Unknown(%d): %d", len(values), e)
	}
	p := &desks{known: d, unknown: u, model: newModel(bigs(values), nil)}
	p.same(t, "at the beginning")
	return p
}

// small: newDesks of small values.
func small(t testing.TB, values ...int64) *desks {
	t.Helper()
	return newDesks(t, nums(values...)...)
}

// same: are both desks what they must be?
func (p *desks) same(t testing.TB, what string) {
	t.Helper()
	want := p.model.bytes()
	for i, d := range p.both() {
		if got := d.System().Encode(); !bytes.Equal(got, want) {
			t.Fatalf("%s: desk %d: the system's bytes are %x, want %x", what, i, got, want)
		}
	}
	a, ok := p.known.Assignment()
	if !ok || !sameAssignment(a, p.model.told) {
		t.Fatalf("%s: the own assignment is %v, %v, want %v", what, a, ok, p.model.told)
	}
	stand := p.stand(p.model.own)
	if e := p.known.System().Holds(a); (e == api.OK) != stand || e == api.ErrLength || e == api.ErrGate {
		t.Fatalf("%s: Holds tells %d of the own assignment, and the pieces stand: %v", what, e, stand)
	}
	if a, ok := p.unknown.Assignment(); ok || !sameAssignment(a, circuit.Assignment{}) {
		t.Fatalf("%s: the desk that does not know has an assignment: %v", what, a)
	}
}

// stand: do all pieces, under an assignment?
func (p *desks) stand(all table) bool {
	number := func(x circuit.Lin) *big.Int { return all.sum(formOf(x)) }
	for _, a := range p.pieces {
		if !a.call.stands(number, a.answers) {
			return false
		}
	}
	return true
}

// run: the call on both desks.
func (p *desks) run(t testing.TB, c call) ([]circuit.Lin, api.Errno) {
	t.Helper()
	next, want, e := p.model.must(c)
	var answers []circuit.Lin
	for i, d := range p.both() {
		got, f := c.do(d)
		what := fmt.Sprintf("desk %d: %.300s", i, c.name)
		if f != e || len(got) != len(want) {
			t.Fatalf("%s: %d with %d sums, want %d with %d", what, f, len(got), e, len(want))
		}
		for j, x := range got {
			if !slices.Equal(x, want[j].lin()) {
				t.Fatalf("%s: answer %d is %v, want %v", what, j, x, want[j].lin())
			}
			p.number(t, what, x, next.own.sum(want[j]))
		}
		answers = got
	}
	p.model = next
	if e == api.OK {
		p.pieces = append(p.pieces, added{c, answers})
	}
	p.same(t, fmt.Sprintf("behind %.300s", c.name))
	return answers, e
}

// number: what the desks tell of a sum: its number, on the desk that knows alone.
func (p *desks) number(t testing.TB, what string, x circuit.Lin, want *big.Int) {
	t.Helper()
	if n, ok := p.known.Number(x); !ok || n != sample.Scalar(want) {
		t.Fatalf("%s: its number is %v, %v, want %v", what, n, ok, want)
	}
	if n, ok := p.unknown.Number(x); ok || n != (scalar.Scalar{}) {
		t.Fatalf("%s: its number is told though nobody knows it: %v, %v", what, n, ok)
	}
}

// ok: run, of a call that must be answered OK.
func (p *desks) ok(t testing.TB, c call) []circuit.Lin {
	t.Helper()
	answers, e := p.run(t, c)
	if e != api.OK {
		t.Fatalf("%.300s: the answer is %d", c.name, e)
	}
	return answers
}

// refused: run, of a call that must be answered with that error.
func (p *desks) refused(t testing.TB, c call, want api.Errno) {
	t.Helper()
	_, e := p.run(t, c)
	errno(t, fmt.Sprintf("%.300s", c.name), e, want)
}

// more: so many gates and requirements were added.
func (p *desks) more(t testing.TB, what string, gates, requires int) {
	t.Helper()
	s := p.known.System()
	if s.Gates() != s.Values()+gates || s.Requires() != s.Values()+requires {
		t.Errorf("%s: %d gates, %d requirements were added, want %d, %d", what, s.Gates()-s.Values(), s.Requires()-s.Values(), gates, requires)
	}
}

// holds: what Holds tells of the own assignment.
func (p *desks) holds(t testing.TB, what string, want api.Errno) {
	t.Helper()
	a, ok := p.known.Assignment()
	if !ok {
		t.Fatalf("%s: no assignment", what)
	}
	errno(t, what, p.known.System().Holds(a), want)
}

// requirement: number i, counted from those that were added.
func (p *desks) requirement(t testing.TB, what string, i int, want ...circuit.Term) {
	t.Helper()
	s := p.unknown.System()
	got, e := s.Requirement(s.Values() + i)
	errno(t, what, e, api.OK)
	if !slices.Equal(got, want) {
		t.Errorf("%s: requirement %d is %v, want %v", what, i, got, want)
	}
}

// gate: the own numbers of gate i, counted from those that were added.
func (p *desks) gate(t testing.TB, what string, i int, l, r, o int64) {
	t.Helper()
	a, _ := p.known.Assignment()
	i += len(a.V)
	if a.L[i] != num(l) || a.R[i] != num(r) || a.O[i] != num(o) {
		t.Errorf("%s: gate %d has %v, %v, %v, want %d, %d, %d", what, i, a.L[i], a.R[i], a.O[i], l, r, o)
	}
}

func (p *desks) both() []*gadget.Desk { return []*gadget.Desk{p.known, p.unknown} }
