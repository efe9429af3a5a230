package gadget

import (
	"cmp"
	"slices"

	"veil/api"
	"veil/circuit"
	"veil/scalar"
)

// piece: what is added to a system for any number of sums; the sums that it answers.
type piece func(sums ...circuit.Lin) []circuit.Lin

// whole: adds a piece; where there is no room for all of it, nothing.
func (d *Desk) whole(add piece, sums ...circuit.Lin) ([]circuit.Lin, api.Errno) {
	switch {
	case d.none():
		return nil, api.ErrArg
	case slices.ContainsFunc(sums, d.lacks):
		return nil, api.ErrWire
	}
	// The piece writes into copies, so that what was can be taken up again.
	was := *d
	d.system, d.numbers = was.system.Clone(), was.numbers.again()
	answers := add(sums...)
	if e := d.fault; e != api.OK {
		*d = was
		return nil, e
	}
	return answers, api.OK
}

// one: whole, of a piece that answers one sum.
func (d *Desk) one(add piece, sums ...circuit.Lin) (circuit.Lin, api.Errno) {
	answers, e := d.whole(add, sums...)
	if e != api.OK {
		return nil, e
	}
	return answers[0], api.OK
}

// only: whole, of a piece whose answers do not count.
func (d *Desk) only(add piece, sums ...circuit.Lin) api.Errno {
	_, e := d.whole(add, sums...)
	return e
}

// has: is a wire there?
func (d *Desk) has(w circuit.Wire) bool {
	switch w.Kind {
	case api.WireOne:
		return w.I == 0
	case api.WireLeft, api.WireRight, api.WireOut:
		return w.I >= 0 && w.I < d.system.Gates()
	case api.WireValue:
		return w.I >= 0 && w.I < d.system.Values()
	}
	return false
}

// lacks: does a sum name a wire that is not there? (In its least form: a wire that falls out need not be.)
func (d *Desk) lacks(x circuit.Lin) bool {
	return slices.ContainsFunc(x.Least(), func(t circuit.Term) bool { return !d.has(t.Wire) })
}

// keep: the first fault. Behind it nothing that is added counts, for the desk goes back to what it was.
func (d *Desk) keep(e api.Errno) { d.fault = cmp.Or(d.fault, e) }

// unit: the number 1 as a sum.
func unit() circuit.Lin { return circuit.Const(scalar.Int(1)) }

// multiply: x y is added.
func (d *Desk) multiply(x, y circuit.Lin) circuit.Lin {
	// Ahead of the new gate: it has no numbers yet, and so no sum has.
	left, _ := d.Number(x)
	right, _ := d.Number(y)
	_, _, out, e := d.system.Multiply(x, y)
	d.keep(e)
	d.numbers.gate(left, right)
	return circuit.Of(out)
}

// free: a free gate is added, with these own numbers: its left, its right and its output wire.
func (d *Desk) free(left, right scalar.Scalar) (l, r, o circuit.Lin) {
	lw, rw, ow, e := d.system.Gate()
	d.keep(e)
	d.numbers.gate(left, right)
	return circuit.Of(lw), circuit.Of(rw), circuit.Of(ow)
}
