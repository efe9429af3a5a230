package gadget_test

// Inputs that look like chance: sums, and calls of every kind.

import (
	"math/big"

	"veil/circuit"
	"veil/sample"
	"veil/scalar"
)

// kind: a piece of so many sums.
type kind struct {
	name  string
	sums  int
	call  func(xs ...circuit.Lin) call
	gates int // that it adds
	rules int // requirements that it adds
}

// kinds: each piece, the short forms of some of them too.
func kinds() []kind {
	at := func(n int, c func(x circuit.Lin, n int) call) func(xs ...circuit.Lin) call {
		return func(xs ...circuit.Lin) call { return c(xs[0], n) }
	}
	one := func(c func(x circuit.Lin) call) func(xs ...circuit.Lin) call {
		return func(xs ...circuit.Lin) call { return c(xs[0]) }
	}
	two := func(c func(x, y circuit.Lin) call) func(xs ...circuit.Lin) call {
		return func(xs ...circuit.Lin) call { return c(xs[0], xs[1]) }
	}
	member := func(set ...int64) func(xs ...circuit.Lin) call {
		return func(xs ...circuit.Lin) call { return memberCall(xs[0], nums(set...)) }
	}
	less := func(n int) func(xs ...circuit.Lin) call {
		return func(xs ...circuit.Lin) call { return lessCall(xs[0], xs[1], n) }
	}
	shuffle := func(xs ...circuit.Lin) call {
		return shuffleCall(xs[:len(xs)/2], xs[len(xs)/2:], num(7))
	}
	choose := func(xs ...circuit.Lin) call { return chooseCall(xs[0], xs[1], xs[2]) }
	return []kind{
		{"Multiply", 2, two(multiplyCall), 1, 2},
		{"Product of one", 1, productCall, 0, 0},
		{"Product of two", 2, productCall, 1, 2},
		{"Product of four", 4, productCall, 3, 6},
		{"Power 0", 1, at(0, powerCall), 0, 0},
		{"Power 1", 1, at(1, powerCall), 0, 0},
		{"Power 2", 1, at(2, powerCall), 1, 2},
		{"Power 5", 1, at(5, powerCall), 3, 6},
		{"Power 7", 1, at(7, powerCall), 4, 8},
		{"Zero", 1, one(zeroCall), 0, 1},
		{"Equal", 2, two(equalCall), 0, 1},
		{"NotZero", 1, one(notZeroCall), 1, 2},
		{"Bit", 1, one(bitCall), 1, 3},
		{"Bits 1", 1, at(1, bitsCall), 1, 3},
		{"Bits 3", 1, at(3, bitsCall), 3, 7},
		{"Choose", 3, choose, 1, 2},
		{"Member of one", 1, member(3), 0, 1},
		{"Member of three", 1, member(1, 3, 5), 2, 5},
		{"Less 1", 2, less(1), 3, 9},
		{"Less 2", 2, less(2), 6, 15},
		{"Shuffle of one", 2, shuffle, 0, 1},
		{"Shuffle of two", 4, shuffle, 2, 5},
		{"Shuffle of three", 6, shuffle, 4, 9},
	}
}

// someWire: near the edges of what is there; one that is there, unless far.
func (m *model) someWire(maker *sample.Maker, far bool) circuit.Wire {
	for {
		w := circuit.Wire{Kind: 1 + int(maker.Next()%5)}
		if w.Kind != 1 {
			w.I = int(maker.Next() % uint64(m.gates+1))
		}
		if far && maker.Next()%8 == 0 {
			w.Kind = []int{-1 << 63, -1, 0, 1, 5, 6, 258, 1<<63 - 1}[maker.Next()%8]
		}
		if far && maker.Next()%8 == 0 {
			w.I = []int{-1 << 63, -1, 1, m.values, m.gates, m.gates + 1, 1<<32 + 1, 1<<63 - 1}[maker.Next()%8]
		}
		if far || m.there(w) {
			return w
		}
	}
}

// someLin: terms with wires that come again and factors by any limbs, some of which take one another away.
func (m *model) someLin(maker *sample.Maker, far bool) circuit.Lin {
	var a circuit.Lin
	for range maker.Next() % 6 {
		x := circuit.Term{Wire: m.someWire(maker, far), K: maker.Limbs(maker.Number())}
		if len(a) > 0 && maker.Next()%3 == 0 {
			other := a[maker.Next()%uint64(len(a))]
			x = circuit.Term{Wire: other.Wire, K: maker.Limbs(new(big.Int).Neg(sample.NumberOf(other.K)))}
		}
		a = append(a, x)
	}
	return a
}

// pick: a small number.
func pick(maker *sample.Maker, below int) int { return int(maker.Next() % uint64(below)) }

// someSums: a few.
func (m *model) someSums(maker *sample.Maker, count int, far bool) []circuit.Lin {
	var list []circuit.Lin
	for range count {
		list = append(list, m.someLin(maker, far))
	}
	return list
}

// someSet: scalars by any limbs.
func someSet(maker *sample.Maker, count int) []scalar.Scalar {
	var list []scalar.Scalar
	for range count {
		list = append(list, maker.Limbs(maker.Number()))
	}
	return list
}

// someCall: of any kind, with any arguments; about every fourth has something wrong.
func (m *model) someCall(maker *sample.Maker) call {
	far := maker.Next()%4 == 0
	x, y, z := m.someLin(maker, far), m.someLin(maker, far), m.someLin(maker, far)
	switch pick(maker, 12) {
	case 0:
		return multiplyCall(x, y)
	case 1:
		return productCall(m.someSums(maker, pick(maker, 5), far)...)
	case 2:
		return zeroCall(x)
	case 3:
		return equalCall(x, y)
	case 4:
		return notZeroCall(x)
	case 5:
		return bitCall(x)
	case 6:
		return bitsCall(x, pick(maker, 6))
	case 7:
		return chooseCall(x, y, z)
	case 8:
		return memberCall(x, someSet(maker, pick(maker, 5)))
	case 9:
		return lessCall(x, y, pick(maker, 4))
	case 10:
		count := pick(maker, 4)
		other := count
		if maker.Next()%8 == 0 {
			other++
		}
		return shuffleCall(m.someSums(maker, count, far), m.someSums(maker, other, far), maker.Limbs(maker.Number()))
	}
	return powerCall(x, pick(maker, 20)-1)
}
