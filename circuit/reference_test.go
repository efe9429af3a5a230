package circuit_test

// What must be answered, by the chapter's words: sums, systems, assignments and bytes of numbers of math/big, and the library's varints.

import (
	"bytes"
	"encoding/binary"
	"fmt"
	"math/big"
	"slices"
	"testing"

	"veil/api"
	"veil/circuit"
	"veil/sample"
	"veil/scalar"
)

func errno(t testing.TB, what string, got, want api.Errno) {
	t.Helper()
	if got != want {
		t.Errorf("%s: the answer is %d, want %d", what, got, want)
	}
}

// Wires, by the numbers that the document gives their kinds.
var unit = circuit.Wire{Kind: 1}

func left(i int) circuit.Wire  { return circuit.Wire{Kind: 2, I: i} }
func right(i int) circuit.Wire { return circuit.Wire{Kind: 3, I: i} }
func out(i int) circuit.Wire   { return circuit.Wire{Kind: 4, I: i} }
func value(i int) circuit.Wire { return circuit.Wire{Kind: 5, I: i} }

// num: a small number, below 0 too.
func num(n int64) scalar.Scalar { return sample.Scalar(big.NewInt(n)) }

func nums(ns ...int64) []scalar.Scalar {
	list := make([]scalar.Scalar, len(ns))
	for i, n := range ns {
		list[i] = num(n)
	}
	return list
}

func term(k int64, w circuit.Wire) circuit.Term { return circuit.Term{Wire: w, K: num(k)} }

// item: a term whose factor is a number from 0 to l - 1.
type item struct {
	wire circuit.Wire
	k    *big.Int
}

// ahead: by kind, then by number.
func ahead(a, b circuit.Wire) bool { return a.Kind < b.Kind || a.Kind == b.Kind && a.I < b.I }

// items: terms added up, each put into its place, none with the factor 0.
func items(terms []item) []item {
	var list []item
	for _, x := range terms {
		at := 0
		for at < len(list) && ahead(list[at].wire, x.wire) {
			at++
		}
		if at == len(list) || list[at].wire != x.wire {
			list = slices.Insert(list, at, item{x.wire, new(big.Int)})
		}
		list[at].k = sample.Mod(new(big.Int).Add(list[at].k, x.k))
	}
	return slices.DeleteFunc(list, func(x item) bool { return x.k.Sign() == 0 })
}

// asItems: the terms as they stand, each factor times k.
func asItems(a circuit.Lin, k int64) []item {
	list := make([]item, len(a))
	for i, x := range a {
		list[i] = item{x.Wire, new(big.Int).Mul(sample.NumberOf(x.K), big.NewInt(k))}
	}
	return list
}

// leastItems: the least form of a sum.
func leastItems(a circuit.Lin) []item { return items(asItems(a, 1)) }

// isLin: is a sum just these terms, in their order, each by its factor's least limbs?
func isLin(got circuit.Lin, want []item) bool {
	return slices.EqualFunc(got, want, func(x circuit.Term, y item) bool {
		return x.Wire == y.wire && x.K == sample.Scalar(y.k)
	})
}

func wantLin(t testing.TB, what string, got circuit.Lin, want []item) {
	t.Helper()
	if !isLin(got, want) {
		t.Errorf("%s: %v, want %v", what, got, want)
	}
}

// is: the same, by terms written out.
func is(t testing.TB, what string, got circuit.Lin, want ...circuit.Term) {
	t.Helper()
	if !slices.Equal(got, want) {
		t.Errorf("%s: %v, want %v", what, got, want)
	}
}

// model: a system.
type model struct {
	values, gates int
	requires      [][]item
}

func newModel(values int) *model {
	m := &model{values: values, gates: values}
	for j := range values {
		m.requires = append(m.requires, firstOf(j))
	}
	return m
}

// firstOf: requirement j, of the first ones.
func firstOf(j int) []item {
	return []item{{left(j), big.NewInt(1)}, {value(j), sample.Mod(big.NewInt(-1))}}
}

func (m *model) clone() *model {
	return &model{m.values, m.gates, append([][]item(nil), m.requires...)}
}

// there: is a wire there?
func (m *model) there(w circuit.Wire) bool {
	switch {
	case w == unit:
		return true
	case w.Kind == 2 || w.Kind == 3 || w.Kind == 4:
		return w.I >= 0 && w.I <= m.gates-1
	case w.Kind == 5:
		return w.I >= 0 && w.I <= m.values-1
	}
	return false
}

func (m *model) allThere(x []item) bool {
	for _, y := range x {
		if !m.there(y.wire) {
			return false
		}
	}
	return true
}

// gate: its number.
func (m *model) gate() (int, api.Errno) {
	if m.gates == 1024 {
		return 0, api.ErrFull
	}
	m.gates++
	return m.gates - 1, api.OK
}

func (m *model) require(a circuit.Lin) api.Errno {
	x := leastItems(a)
	if !m.allThere(x) {
		return api.ErrWire
	}
	if len(m.requires) == 4096 {
		return api.ErrFull
	}
	m.requires = append(m.requires, x)
	return api.OK
}

// multiply: the new gate's number.
func (m *model) multiply(a, b circuit.Lin) (int, api.Errno) {
	if !m.allThere(leastItems(a)) || !m.allThere(leastItems(b)) {
		return 0, api.ErrWire
	}
	if m.gates == 1024 || len(m.requires) > 4096-2 {
		return 0, api.ErrFull
	}
	k := m.gates
	m.gates++
	for i, x := range []circuit.Lin{a, b} {
		w := []circuit.Wire{left(k), right(k)}[i]
		m.requires = append(m.requires, items(append(asItems(x, -1), item{w, big.NewInt(1)})))
	}
	return k, api.OK
}

// bytes: of the system.
func (m *model) bytes() []byte {
	var b []byte
	for _, n := range []int{m.values, m.gates, len(m.requires)} {
		b = binary.AppendUvarint(b, uint64(n))
	}
	for _, x := range m.requires {
		b = binary.AppendUvarint(b, uint64(len(x)))
		for _, y := range x {
			b = binary.AppendUvarint(b, uint64(y.wire.Kind))
			b = binary.AppendUvarint(b, uint64(y.wire.I))
			b = append(b, sample.Bytes(y.k, 32)...)
		}
	}
	return b
}

// stands: is it a system at all?
func (m *model) stands() bool {
	if m.values < 0 || m.values > 16 || m.gates < m.values || m.gates > 1024 || len(m.requires) > 4096 || len(m.requires) < m.values {
		return false
	}
	for j, x := range m.requires {
		if !m.allThere(x) || !sameItems(x, items(x)) || j < m.values && !sameItems(x, firstOf(j)) {
			return false
		}
	}
	return true
}

func sameItems(a, b []item) bool {
	return slices.EqualFunc(a, b, func(x, y item) bool { return x.wire == y.wire && x.k.Cmp(y.k) == 0 })
}

// loose: what is left of bytes that are read however they are written; it gives up where they end.
type loose struct {
	rest []byte
	ok   bool
}

func (r *loose) number() int {
	n, size := binary.Uvarint(r.rest)
	if size <= 0 || n > 1<<20 {
		r.ok, r.rest = false, nil
		return 0
	}
	r.rest = r.rest[size:]
	return int(n)
}

func (r *loose) scalar() *big.Int {
	if len(r.rest) < 32 {
		r.ok, r.rest = false, nil
		return new(big.Int)
	}
	n := sample.Number(r.rest[:32])
	r.rest = r.rest[32:]
	return n
}

// decoded: the system whose bytes these are; nil, if they are of none.
func decoded(b []byte) *model {
	r := &loose{b, true}
	m := &model{values: r.number(), gates: r.number()}
	for count := r.number(); count > 0 && r.ok; count-- {
		var x []item
		for terms := r.number(); terms > 0 && r.ok; terms-- {
			w := circuit.Wire{Kind: r.number(), I: r.number()}
			x = append(x, item{w, r.scalar()})
		}
		m.requires = append(m.requires, x)
	}
	if !r.ok || !m.stands() || !bytes.Equal(m.bytes(), b) {
		return nil
	}
	return m
}

// table: an assignment, in numbers from 0 to l - 1.
type table map[circuit.Wire]*big.Int

func (m *model) fits(a circuit.Assignment) bool {
	return len(a.L) == m.gates && len(a.R) == m.gates && len(a.O) == m.gates && len(a.V) == m.values
}

// tableOf: of an assignment that fits.
func tableOf(a circuit.Assignment) table {
	all := table{unit: big.NewInt(1)}
	for i := range a.L {
		all[left(i)], all[right(i)], all[out(i)] = sample.NumberOf(a.L[i]), sample.NumberOf(a.R[i]), sample.NumberOf(a.O[i])
	}
	for j := range a.V {
		all[value(j)] = sample.NumberOf(a.V[j])
	}
	return all
}

// sum: of terms whose wires are there.
func (all table) sum(x []item) *big.Int {
	sum := new(big.Int)
	for _, y := range x {
		sum.Add(sum, new(big.Int).Mul(y.k, all[y.wire]))
	}
	return sample.Mod(sum)
}

func (m *model) eval(a circuit.Assignment, x circuit.Lin) (*big.Int, api.Errno) {
	if !m.fits(a) {
		return new(big.Int), api.ErrLength
	}
	if !m.allThere(leastItems(x)) {
		return new(big.Int), api.ErrWire
	}
	return tableOf(a).sum(leastItems(x)), api.OK
}

func (m *model) holds(a circuit.Assignment) api.Errno {
	if !m.fits(a) {
		return api.ErrLength
	}
	all := tableOf(a)
	for i := range m.gates {
		if sample.Mod(new(big.Int).Mul(all[left(i)], all[right(i)])).Cmp(all[out(i)]) != 0 {
			return api.ErrGate
		}
	}
	for _, x := range m.requires {
		if all.sum(x).Sign() != 0 {
			return api.ErrRequire
		}
	}
	return api.OK
}

// flat: the factor of each wire in all requirements together, requirement q times z^(q + 1).
func (m *model) flat(z *big.Int) table {
	all, power := table{}, big.NewInt(1)
	for _, x := range m.requires {
		power = sample.Mod(new(big.Int).Mul(power, z))
		for _, y := range x {
			if all[y.wire] == nil {
				all[y.wire] = new(big.Int)
			}
			all[y.wire].Add(all[y.wire], new(big.Int).Mul(y.k, power))
		}
	}
	return all
}

// factor: of a wire; sign 1 or -1.
func (all table) factor(w circuit.Wire, sign int64) scalar.Scalar {
	if all[w] == nil {
		return scalar.Scalar{}
	}
	return sample.Scalar(new(big.Int).Mul(all[w], big.NewInt(sign)))
}

// weights: what Flatten must say.
func (m *model) weights(z *big.Int) circuit.Weights {
	all := m.flat(z)
	w := circuit.Weights{C: all.factor(unit, -1)}
	for i := range m.gates {
		w.L = append(w.L, all.factor(left(i), 1))
		w.R = append(w.R, all.factor(right(i), 1))
		w.O = append(w.O, all.factor(out(i), 1))
	}
	for j := range m.values {
		w.V = append(w.V, all.factor(value(j), -1))
	}
	return w
}

func sameWeights(a, b circuit.Weights) bool {
	return slices.Equal(a.L, b.L) && slices.Equal(a.R, b.R) && slices.Equal(a.O, b.O) && slices.Equal(a.V, b.V) && a.C == b.C
}

// pair: a system, and what it must be.
type pair struct {
	system *circuit.System
	model  *model
}

func newPair(t testing.TB, values int) pair {
	t.Helper()
	s, e := circuit.New(values)
	if e != api.OK || s == nil {
		t.Fatalf("New(%d): %d", values, e)
	}
	p := pair{s, newModel(values)}
	p.same(t, fmt.Sprintf("New(%d)", values))
	return p
}

// same: does the system tell what it must?
func (p pair) same(t testing.TB, what string) {
	t.Helper()
	s, m := p.system, p.model
	if s.Gates() != m.gates || s.Values() != m.values || s.Requires() != len(m.requires) {
		t.Fatalf("%s: %d gates, %d values, %d requirements, want %d, %d, %d", what, s.Gates(), s.Values(), s.Requires(), m.gates, m.values, len(m.requires))
	}
	if !bytes.Equal(s.Encode(), m.bytes()) {
		t.Fatalf("%s: the bytes are %x, want %x", what, s.Encode(), m.bytes())
	}
	for i, want := range m.requires {
		if len(m.requires) > 100 && i > 20 && i < len(m.requires)-5 {
			continue // the bytes tell the others, too
		}
		got, e := s.Requirement(i)
		errno(t, what+": Requirement", e, api.OK)
		wantLin(t, fmt.Sprintf("%s: Requirement(%d)", what, i), got, want)
	}
	for _, i := range []int{-1, len(m.requires), len(m.requires) + 1, -1 << 63, 1<<63 - 1} {
		got, e := s.Requirement(i)
		errno(t, fmt.Sprintf("%s: Requirement(%d)", what, i), e, api.ErrArg)
		is(t, what+": a requirement that is not there", got)
	}
}

// wires: what Gate and Multiply tell of a gate, if there is no error.
func wantWires(t testing.TB, what string, l, r, o circuit.Wire, e api.Errno, gate int, want api.Errno) {
	t.Helper()
	errno(t, what, e, want)
	if want != api.OK && (l != circuit.Wire{} || r != circuit.Wire{} || o != circuit.Wire{}) {
		t.Errorf("%s: beside an error: %v, %v, %v", what, l, r, o)
	}
	if want == api.OK && (l != left(gate) || r != right(gate) || o != out(gate)) {
		t.Errorf("%s: %v, %v, %v, want those of gate %d", what, l, r, o, gate)
	}
}

func (p pair) gate(t testing.TB, what string) api.Errno {
	t.Helper()
	k, want := p.model.gate()
	l, r, o, e := p.system.Gate()
	wantWires(t, what, l, r, o, e, k, want)
	p.same(t, what)
	return e
}

func (p pair) require(t testing.TB, what string, a circuit.Lin) api.Errno {
	t.Helper()
	want := p.model.require(a)
	e := p.system.Require(a)
	errno(t, what, e, want)
	p.same(t, what)
	return e
}

func (p pair) multiply(t testing.TB, what string, a, b circuit.Lin) api.Errno {
	t.Helper()
	k, want := p.model.multiply(a, b)
	l, r, o, e := p.system.Multiply(a, b)
	wantWires(t, what, l, r, o, e, k, want)
	p.same(t, what)
	return e
}

func (p pair) eval(t testing.TB, what string, a circuit.Assignment, x circuit.Lin) api.Errno {
	t.Helper()
	want, e := p.model.eval(a, x)
	got, f := p.system.Eval(a, x)
	errno(t, what, f, e)
	if got != sample.Scalar(want) {
		t.Errorf("%s: %v, want %v", what, got, sample.Scalar(want))
	}
	return f
}

func (p pair) holds(t testing.TB, what string, a circuit.Assignment) api.Errno {
	t.Helper()
	e := p.system.Holds(a)
	errno(t, what, e, p.model.holds(a))
	return e
}

func (p pair) flatten(t testing.TB, what string, z scalar.Scalar) circuit.Weights {
	t.Helper()
	w, e := p.system.Flatten(z)
	errno(t, what, e, api.OK)
	if want := p.model.weights(sample.NumberOf(z)); !sameWeights(w, want) {
		t.Errorf("%s: %v, want %v", what, w, want)
	}
	return w
}

// clone: of both.
func (p pair) clone(t testing.TB, what string) pair {
	t.Helper()
	other := pair{p.system.Clone(), p.model.clone()}
	if other.system == p.system {
		t.Fatalf("%s: the clone is the system itself", what)
	}
	other.same(t, what)
	return other
}

// decode: what the bytes are, and that they say the same again.
func decode(t testing.TB, what string, b []byte) api.Errno {
	t.Helper()
	s, e := circuit.Decode(b)
	m := decoded(b)
	if m == nil {
		errno(t, what, e, api.ErrSystem)
		if s != nil {
			t.Errorf("%s: a system beside an error", what)
		}
		return e
	}
	errno(t, what, e, api.OK)
	if e == api.OK {
		pair{s, m}.same(t, what)
	}
	return e
}

// someWire: near the edges of a system; most of those that it makes are there, unless far.
func (m *model) someWire(maker *sample.Maker, far bool) circuit.Wire {
	for {
		w := circuit.Wire{Kind: 1 + int(maker.Next()%5)}
		if w.Kind != 1 {
			w.I = int(maker.Next() % uint64(max(m.gates, m.values)+1))
		}
		if far && maker.Next()%8 == 0 {
			w.Kind = []int{-1 << 63, -1, 0, 1, 5, 6, 258, 1<<63 - 1}[maker.Next()%8]
		}
		if far && maker.Next()%8 == 0 {
			w.I = []int{-1 << 63, -1, 1, m.values, m.gates, m.gates + 1, 1<<32 + 1, 1<<63 - 1}[maker.Next()%8]
		}
		if far || m.there(w) {
			return w
		}
	}
}

// someLin: terms with wires that come again and factors by any limbs, some of which take one another away.
func (m *model) someLin(maker *sample.Maker, terms int, far bool) circuit.Lin {
	var a circuit.Lin
	for range terms {
		k := maker.Number()
		x := circuit.Term{Wire: m.someWire(maker, far), K: maker.Limbs(k)}
		if len(a) > 0 && maker.Next()%3 == 0 {
			other := a[maker.Next()%uint64(len(a))]
			x = circuit.Term{Wire: other.Wire, K: maker.Limbs(new(big.Int).Neg(sample.NumberOf(other.K)))}
		}
		a = append(a, x)
	}
	return a
}

// someList: scalars by any limbs.
func someList(maker *sample.Maker, n int) []scalar.Scalar {
	list := make([]scalar.Scalar, n)
	for i := range list {
		list[i] = maker.Limbs(maker.Number())
	}
	return list
}

// someAssignment: any numbers that fit; where gates is true every gate multiplies.
func (m *model) someAssignment(maker *sample.Maker, gates bool) circuit.Assignment {
	a := circuit.Assignment{L: someList(maker, m.gates), R: someList(maker, m.gates), O: someList(maker, m.gates), V: someList(maker, m.values)}
	for i := range a.O {
		if gates {
			a.O[i] = maker.Limbs(new(big.Int).Mul(sample.NumberOf(a.L[i]), sample.NumberOf(a.R[i])))
		}
	}
	return a
}

// somePair: a system that calls of all kinds built.
func somePair(t testing.TB, maker *sample.Maker, values, calls int) pair {
	t.Helper()
	p := newPair(t, values)
	for range calls {
		p.someCall(t, maker)
	}
	return p
}

// someCall: a call that adds to a system, or does not.
func (p pair) someCall(t testing.TB, maker *sample.Maker) {
	t.Helper()
	far := maker.Next()%4 == 0
	a, b := p.model.someLin(maker, int(maker.Next()%6), far), p.model.someLin(maker, int(maker.Next()%6), far)
	switch maker.Next() % 3 {
	case 0:
		p.gate(t, "Gate")
	case 1:
		p.require(t, fmt.Sprint("Require of ", a), a)
	case 2:
		p.multiply(t, fmt.Sprint("Multiply of ", a, " and ", b), a, b)
	}
}
