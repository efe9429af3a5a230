package gadget_test

// What must be built, and what each wire's number must be, by the chapter's words: sums and systems of numbers of math/big, and the library's varints.

import (
	"encoding/binary"
	"maps"
	"math/big"
	"slices"
	"testing"

	"veil/api"
	"veil/circuit"
	"veil/sample"
	"veil/scalar"
)

func errno(t testing.TB, what string, got, want api.Errno) {
	t.Helper()
	if got != want {
		t.Errorf("%s: the answer is %d, want %d", what, got, want)
	}
}

// Wires, by the numbers that the document gives their kinds.
var unit = circuit.Wire{Kind: 1}

func left(i int) circuit.Wire  { return circuit.Wire{Kind: 2, I: i} }
func right(i int) circuit.Wire { return circuit.Wire{Kind: 3, I: i} }
func out(i int) circuit.Wire   { return circuit.Wire{Kind: 4, I: i} }
func value(i int) circuit.Wire { return circuit.Wire{Kind: 5, I: i} }

// num: a small number, below 0 too.
func num(n int64) scalar.Scalar { return sample.Scalar(big.NewInt(n)) }

func nums(ns ...int64) []scalar.Scalar {
	list := make([]scalar.Scalar, len(ns))
	for i, n := range ns {
		list[i] = num(n)
	}
	return list
}

func term(k int64, w circuit.Wire) circuit.Term { return circuit.Term{Wire: w, K: num(k)} }

// number: a small number as a sum.
func number(n int64) circuit.Lin { return circuit.Lin{term(n, unit)} }

// of: a wire as a sum.
func of(w circuit.Wire) circuit.Lin { return circuit.Lin{term(1, w)} }

// form: a sum: the factor of each wire, from 1 to l - 1.
type form map[circuit.Wire]*big.Int

func (f form) put(w circuit.Wire, k *big.Int) {
	sum := new(big.Int).Set(k)
	if f[w] != nil {
		sum.Add(sum, f[w])
	}
	f[w] = sample.Mod(sum)
	if f[w].Sign() == 0 {
		delete(f, w)
	}
}

func formOf(x circuit.Lin) form {
	f := form{}
	for _, y := range x {
		f.put(y.Wire, sample.NumberOf(y.K))
	}
	return f
}

func wireForm(w circuit.Wire) form { return form{w: big.NewInt(1)} }

// plus: f + k g.
func (f form) plus(k *big.Int, g form) form {
	sum := maps.Clone(f)
	for w, n := range g {
		sum.put(w, new(big.Int).Mul(k, n))
	}
	return sum
}

func (f form) add(g form) form  { return f.plus(big.NewInt(1), g) }
func (f form) less(g form) form { return f.plus(big.NewInt(-1), g) }

// lessOne: f - 1.
func (f form) lessOne() form { return f.less(wireForm(unit)) }

// wires: in their order.
func (f form) wires() []circuit.Wire {
	return slices.SortedFunc(maps.Keys(f), func(a, b circuit.Wire) int {
		if a.Kind < b.Kind || a.Kind == b.Kind && a.I < b.I {
			return -1
		}
		return 1
	})
}

// lin: the sum in its least form.
func (f form) lin() circuit.Lin {
	var x circuit.Lin
	for _, w := range f.wires() {
		x = append(x, circuit.Term{Wire: w, K: sample.Scalar(f[w])})
	}
	return x
}

// bytes: of a requirement.
func (f form) bytes() []byte {
	b := binary.AppendUvarint(nil, uint64(len(f)))
	for _, w := range f.wires() {
		b = binary.AppendUvarint(b, uint64(w.Kind))
		b = binary.AppendUvarint(b, uint64(w.I))
		b = append(b, sample.Bytes(f[w], 32)...)
	}
	return b
}

// table: a number for each wire that is there.
type table map[circuit.Wire]*big.Int

// sum: of a form; wires without a number count for nothing.
func (all table) sum(f form) *big.Int {
	sum := new(big.Int)
	for w, k := range f {
		if all[w] != nil {
			sum.Add(sum, new(big.Int).Mul(k, all[w]))
		}
	}
	return sample.Mod(sum)
}

// list: the numbers of so many wires of a kind.
func (all table) list(kind, count int) []scalar.Scalar {
	list := make([]scalar.Scalar, count)
	for i := range list {
		list[i] = sample.Scalar(all[circuit.Wire{Kind: kind, I: i}])
	}
	return list
}

// model: a desk's system, and its own numbers.
type model struct {
	values, gates int
	requires      []form
	texts         [][]byte // the bytes of each requirement
	own           table
	told          circuit.Assignment // the own numbers, by their least limbs
	full          bool               // something was added for which there is no room
}

// newModel: of somebody who knows these values, and has these numbers on the right wires of the gates by which they enter (0, if there are none).
func newModel(values, rights []*big.Int) *model {
	m := &model{values: len(values), own: table{unit: big.NewInt(1)}}
	for j, v := range values {
		m.own[value(j)] = sample.Mod(v)
		m.told.V = append(m.told.V, sample.Scalar(v))
		r := new(big.Int)
		if rights != nil {
			r = rights[j]
		}
		m.gate(v, r, new(big.Int).Mul(v, r))
		m.require(wireForm(left(j)).less(wireForm(value(j))))
	}
	return m
}

func (m *model) clone() *model {
	other := *m
	other.requires, other.texts, other.own = slices.Clone(m.requires), slices.Clone(m.texts), maps.Clone(m.own)
	a := m.told
	other.told = circuit.Assignment{L: slices.Clone(a.L), R: slices.Clone(a.R), O: slices.Clone(a.O), V: slices.Clone(a.V)}
	return &other
}

// there: is a wire there?
func (m *model) there(w circuit.Wire) bool {
	switch {
	case w == unit:
		return true
	case w.Kind == 2 || w.Kind == 3 || w.Kind == 4:
		return w.I >= 0 && w.I <= m.gates-1
	case w.Kind == 5:
		return w.I >= 0 && w.I <= m.values-1
	}
	return false
}

func (m *model) allThere(x circuit.Lin) bool {
	for w := range formOf(x) {
		if !m.there(w) {
			return false
		}
	}
	return true
}

// gate: with these own numbers; its place.
func (m *model) gate(l, r, o *big.Int) int {
	k := m.gates
	if k == 1024 {
		m.full = true
		return k
	}
	m.gates++
	m.own[left(k)], m.own[right(k)], m.own[out(k)] = sample.Mod(l), sample.Mod(r), sample.Mod(o)
	m.told.L, m.told.R, m.told.O = append(m.told.L, sample.Scalar(l)), append(m.told.R, sample.Scalar(r)), append(m.told.O, sample.Scalar(o))
	return k
}

func (m *model) require(f form) {
	if len(m.requires) == 4096 {
		m.full = true
		return
	}
	m.requires = append(m.requires, f)
	m.texts = append(m.texts, f.bytes())
}

// multiply: x y is added.
func (m *model) multiply(x, y form) form {
	l, r := m.own.sum(x), m.own.sum(y)
	k := m.gate(l, r, new(big.Int).Mul(l, r))
	m.require(wireForm(left(k)).less(x))
	m.require(wireForm(right(k)).less(y))
	return wireForm(out(k))
}

// product: of the first two, then of that and the third, and so on.
func (m *model) product(xs ...form) form {
	switch len(xs) {
	case 0:
		return wireForm(unit)
	case 1:
		return xs[0]
	}
	p := m.multiply(xs[0], xs[1])
	for _, x := range xs[2:] {
		p = m.multiply(p, x)
	}
	return p
}

// bits: of x.
func (m *model) bits(x form, n int) []form {
	least := m.own.sum(x)
	var list []form
	total := form{}
	for i := range n {
		bit := big.NewInt(int64(least.Bit(i)))
		k := m.gate(bit, new(big.Int).Sub(bit, big.NewInt(1)), new(big.Int))
		m.require(wireForm(out(k)))
		m.require(wireForm(left(k)).less(wireForm(right(k))).lessOne())
		list = append(list, wireForm(left(k)))
		total = total.plus(sample.Power2(uint(i)), wireForm(left(k)))
	}
	m.require(total.less(x))
	return list
}

// bytes: of the system.
func (m *model) bytes() []byte {
	var b []byte
	for _, n := range []int{m.values, m.gates, len(m.requires)} {
		b = binary.AppendUvarint(b, uint64(n))
	}
	for _, text := range m.texts {
		b = append(b, text...)
	}
	return b
}

func sameAssignment(a, b circuit.Assignment) bool {
	return slices.Equal(a.L, b.L) && slices.Equal(a.R, b.R) && slices.Equal(a.O, b.O) && slices.Equal(a.V, b.V)
}

// tableOf: the numbers of an assignment.
func tableOf(a circuit.Assignment) table {
	all := table{unit: big.NewInt(1)}
	for i := range a.L {
		all[left(i)], all[right(i)], all[out(i)] = sample.NumberOf(a.L[i]), sample.NumberOf(a.R[i]), sample.NumberOf(a.O[i])
	}
	for j := range a.V {
		all[value(j)] = sample.NumberOf(a.V[j])
	}
	return all
}
