package gadget_test

// All assignments that hold for a system, whoever made them: they are searched for in the system alone, by its requirements and gates.

import (
	"maps"
	"math/big"
	"testing"

	"veil/api"
	"veil/circuit"
	"veil/sample"
)

// search: what is looked for, and what was found.
type search struct {
	gates    int
	requires []form
	found    []table
}

// solutions: all numbers with which the system is met, of which those in fixed are given. Wires on which nothing hangs must be among them.
func solutions(t testing.TB, system *circuit.System, fixed table) []table {
	t.Helper()
	s := &search{gates: system.Gates()}
	for i := range system.Requires() {
		x, e := system.Requirement(i)
		errno(t, "Requirement", e, api.OK)
		s.requires = append(s.requires, formOf(x))
	}
	s.from(t, maps.Clone(fixed))
	return s.found
}

// from: goes on from numbers that are known: first what follows from them, then both ways in which a gate can have the output 0.
func (s *search) from(t testing.TB, all table) {
	t.Helper()
	for changed := true; changed; {
		changed = false
		for _, f := range s.requires {
			if !all.follow(f, &changed) {
				return
			}
		}
		for i := range s.gates {
			if !all.multiply(i, &changed) {
				return
			}
		}
	}
	for i := range s.gates {
		if all[out(i)] != nil && all[out(i)].Sign() == 0 && all[left(i)] == nil && all[right(i)] == nil {
			for _, w := range []circuit.Wire{left(i), right(i)} {
				branch := maps.Clone(all)
				branch[w] = new(big.Int)
				s.from(t, branch)
			}
			return
		}
	}
	for i := range s.gates {
		if all[left(i)] == nil || all[right(i)] == nil || all[out(i)] == nil {
			t.Fatalf("gate %d is free: %v, %v, %v", i, all[left(i)], all[right(i)], all[out(i)])
		}
	}
	s.found = append(s.found, all)
}

// follow: false, if a requirement is not met; if one wire alone is not known, it is now.
func (all table) follow(f form, changed *bool) bool {
	var open []circuit.Wire
	for w := range f {
		if all[w] == nil {
			open = append(open, w)
		}
	}
	switch len(open) {
	case 0:
		return all.sum(f).Sign() == 0
	case 1:
		rest := new(big.Int).Neg(all.sum(f))
		all[open[0]] = sample.Mod(rest.Mul(rest, inverse(f[open[0]])))
		*changed = true
	}
	return true
}

// multiply: false, if a gate does not; if one wire alone follows from the others, it is known now.
func (all table) multiply(i int, changed *bool) bool {
	l, r, o := all[left(i)], all[right(i)], all[out(i)]
	switch {
	case l != nil && r != nil:
		product := sample.Mod(new(big.Int).Mul(l, r))
		if o == nil {
			all[out(i)], *changed = product, true
		}
		return o == nil || o.Cmp(product) == 0
	case o == nil && (l != nil && l.Sign() == 0 || r != nil && r.Sign() == 0):
		all[out(i)], *changed = new(big.Int), true
	case o != nil && l != nil:
		return all.divide(right(i), o, l, changed)
	case o != nil && r != nil:
		return all.divide(left(i), o, r, changed)
	}
	return true
}

// divide: the wire is o over k.
func (all table) divide(w circuit.Wire, o, k *big.Int, changed *bool) bool {
	if k.Sign() == 0 {
		return o.Sign() == 0
	}
	all[w], *changed = sample.Mod(new(big.Int).Mul(o, inverse(k))), true
	return true
}

// entry: the numbers from which all others follow: the values, and the right wires of the gates by which they enter.
func entry(values, rights []*big.Int) table {
	all := table{unit: big.NewInt(1)}
	for j, v := range values {
		all[value(j)], all[right(j)] = sample.Mod(v), sample.Mod(rights[j])
	}
	return all
}

// all: every assignment that holds, with the desk's values and these right wires of their gates.
func (p *desks) all(t testing.TB, rights []*big.Int) []circuit.Assignment {
	t.Helper()
	s := p.unknown.System()
	a, _ := p.known.Assignment()
	var list []circuit.Assignment
	for _, found := range solutions(t, s, entry(bigs(a.V), rights)) {
		b := circuit.Assignment{L: found.list(2, s.Gates()), R: found.list(3, s.Gates()), O: found.list(4, s.Gates()), V: found.list(5, s.Values())}
		errno(t, "Holds of what was found", s.Holds(b), api.OK)
		list = append(list, b)
	}
	return list
}

// zeros: so many numbers.
func zeros(n int) []*big.Int {
	list := make([]*big.Int, n)
	for i := range list {
		list[i] = new(big.Int)
	}
	return list
}

// none: no assignment holds with the desk's values.
func (p *desks) none(t testing.TB, what string) {
	t.Helper()
	if list := p.all(t, zeros(p.model.values)); len(list) != 0 {
		t.Errorf("%s: there are assignments that hold: %v", what, list)
	}
}
