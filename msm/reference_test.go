package msm_test

// What the tests of this package count in, and what they hold the answers against: lists of numbers of math/big, modulo l, one for each place of a Free element, one alone for the other groups.

import (
	"math/big"
	"testing"

	"veil/api"
	"veil/group"
	"veil/msm"
	"veil/sample"
	"veil/scalar"
)

// numbers: what an element stands for.
type numbers []*big.Int

// mod: the number from 0 to l - 1.
func mod(n *big.Int) *big.Int { return new(big.Int).Mod(n, sample.L()) }

// number: the one that a scalar stands for.
func number(k scalar.Scalar) *big.Int {
	b := k.Encode()
	return sample.Number(b[:])
}

// bigs: small numbers.
func bigs(ns ...int64) numbers {
	list := make(numbers, len(ns))
	for i, n := range ns {
		list[i] = mod(big.NewInt(n))
	}
	return list
}

// at: the number in place i; 0 behind the last.
func (ns numbers) at(i int) *big.Int {
	if i < len(ns) {
		return ns[i]
	}
	return new(big.Int)
}

// plus: place by place.
func (ns numbers) plus(other numbers) numbers {
	sum := make(numbers, max(len(ns), len(other)))
	for i := range sum {
		sum[i] = mod(new(big.Int).Add(ns.at(i), other.at(i)))
	}
	return sum
}

// times: each of them.
func (ns numbers) times(k *big.Int) numbers {
	product := make(numbers, len(ns))
	for i := range product {
		product[i] = mod(new(big.Int).Mul(ns[i], k))
	}
	return product
}

// same: are they the same at every place?
func (ns numbers) same(other numbers) bool {
	for i := range max(len(ns), len(other)) {
		if ns.at(i).Cmp(other.at(i)) != 0 {
			return false
		}
	}
	return true
}

// limbs: a scalar by any of its limbs.
func limbs(m *sample.Maker, n *big.Int) scalar.Scalar {
	looks := sample.Scalars(n)
	return looks[m.Next()%uint64(len(looks))]
}

// anyNumber: from 0 to l - 1; 0, 1 and -1 come up often.
func anyNumber(m *sample.Maker) *big.Int {
	if pick := m.Next() % 8; pick < 3 {
		return mod(big.NewInt(int64(pick) - 1))
	}
	return mod(sample.Number(m.Bytes(40)))
}

// box: a group of a caller's own: a pointer, nil being neutral, to a number that may be any of those that are the same modulo l.
type box struct{ n *big.Int }

func (a *box) number() *big.Int {
	if a == nil {
		return new(big.Int)
	}
	return mod(a.n)
}

func (a *box) Add(b *box) *box            { return &box{new(big.Int).Add(a.number(), b.number())} }
func (a *box) Neg() *box                  { return &box{new(big.Int).Neg(a.number())} }
func (a *box) Double() *box               { return &box{new(big.Int).Lsh(a.number(), 1)} }
func (a *box) Times(k scalar.Scalar) *box { return &box{new(big.Int).Mul(a.number(), number(k))} }
func (a *box) Same(b *box) bool           { return a.number().Cmp(b.number()) == 0 }
func (a *box) Encode() api.Bytes32        { return sample.Bytes32(a.number()) }

func (a *box) Decode(b api.Bytes32) (*box, api.Errno) {
	return &box{sample.Number(b[:])}, api.OK
}

// kind: a group, and how its elements stand for numbers.
type kind[P msm.Group[P]] struct {
	name  string
	width int                                 // so many numbers at most
	of    func(m *sample.Maker, ns numbers) P // by any of its looks
	to    func(a P) numbers
}

func lines() kind[msm.Line] {
	return kind[msm.Line]{"Line", 1,
		func(m *sample.Maker, ns numbers) msm.Line { return msm.Line{K: limbs(m, ns.at(0))} },
		func(a msm.Line) numbers { return numbers{number(a.K)} },
	}
}

func frees() kind[msm.Free] {
	return kind[msm.Free]{"Free", 5,
		func(m *sample.Maker, ns numbers) msm.Free {
			a := msm.Free{}
			for _, n := range ns {
				a.K = append(a.K, limbs(m, n))
			}
			for range m.Next() % 3 {
				a.K = append(a.K, limbs(m, new(big.Int)))
			}
			return a
		},
		func(a msm.Free) numbers {
			list := make(numbers, len(a.K))
			for i, k := range a.K {
				list[i] = number(k)
			}
			return list
		},
	}
}

func boxes() kind[*box] {
	return kind[*box]{"a group of the test's own", 1,
		func(m *sample.Maker, ns numbers) *box {
			if ns.at(0).Sign() == 0 && m.Next()%2 == 0 {
				return nil
			}
			far := new(big.Int).Mul(sample.L(), big.NewInt(int64(m.Next()%9)-4))
			return &box{far.Add(far, ns.at(0))}
		},
		func(a *box) numbers { return numbers{a.number()} },
	}
}

// points: the element of a number is that multiple of the base element. The way back is a list of all that were made.
func points() kind[group.Point] {
	made := map[api.Bytes32]*big.Int{}
	multiple := func(n *big.Int) group.Point { return group.Base().Times(sample.Scalar(n)) }
	return kind[group.Point]{"Point", 1,
		func(m *sample.Maker, ns numbers) group.Point {
			a := multiple(ns.at(0))
			made[a.Encode()] = ns.at(0)
			if ns.at(0).Sign() == 0 && m.Next()%2 == 0 {
				return group.Point{}
			}
			look, _ := group.FromCurve(a.Coset()[m.Next()%4])
			return look
		},
		func(a group.Point) numbers {
			if n, ok := made[a.Encode()]; ok {
				return numbers{n}
			}
			return bigs(-1)
		},
	}
}

// any: the numbers of an element; none at all, and zeros in between, come up often.
func (k kind[P]) any(m *sample.Maker) numbers {
	ns := make(numbers, m.Next()%uint64(k.width+1))
	for i := range ns {
		ns[i] = anyNumber(m)
	}
	return ns
}

// sums: terms, and the numbers that their sum stands for.
type sums[P any] struct {
	terms []msm.Term[P]
	want  numbers
}

// terms: so many, any of them.
func (k kind[P]) terms(m *sample.Maker, count int) sums[P] {
	c := sums[P]{}
	for range count {
		c = k.more(m, c, anyNumber(m), k.any(m))
	}
	return c
}

// more: the terms, and one behind them.
func (k kind[P]) more(m *sample.Maker, c sums[P], times *big.Int, ns numbers) sums[P] {
	term := msm.Term[P]{K: limbs(m, times), P: k.of(m, ns)}
	return sums[P]{append(c.terms, term), c.want.plus(ns.times(times))}
}

// one: an element must stand for these numbers.
func (k kind[P]) one(t *testing.T, what string, got P, want numbers) {
	t.Helper()
	k.of(new(sample.Maker), want) // so that a Point's number is known
	if !k.to(got).same(want) {
		t.Errorf("%s, over %s: %v, want %v", what, k.name, k.to(got), want)
	}
}

// refused: an answer must be this error, and nothing beside it.
func (k kind[P]) refused(t *testing.T, what string, got P, c msm.Cost, e, want api.Errno) {
	t.Helper()
	var neutral P
	if e != want || !got.Same(neutral) || c != (msm.Cost{}) {
		t.Errorf("%s, over %s: %v, cost %v, error %d, want error %d alone", what, k.name, got, c, e, want)
	}
}

// strausMost, pippengerMost: what the chapter allows them.
func digits(w int) int { return (256+w-1)/w + 1 }

func strausMost(n, w int) int {
	if n == 0 {
		return 0
	}
	return n*(1<<w+digits(w)) + w*digits(w)
}

func pippengerMost(n, w int) int {
	if n == 0 {
		return 0
	}
	return digits(w) * (n + 1<<(w+1) + w + 1)
}
