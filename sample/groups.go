package sample

import (
	"math/big"

	"veil/api"
	"veil/group"
	"veil/msm"
	"veil/scalar"
)

// Box: a group of a caller's own: a pointer, nil being neutral, to a number that may be any of those that are the same modulo l.
type Box struct{ n *big.Int }

func (a *Box) number() *big.Int {
	if a == nil {
		return new(big.Int)
	}
	return Mod(a.n)
}

// What msm.Group asks for.
func (a *Box) Add(b *Box) *Box            { return &Box{new(big.Int).Add(a.number(), b.number())} }
func (a *Box) Neg() *Box                  { return &Box{new(big.Int).Neg(a.number())} }
func (a *Box) Double() *Box               { return &Box{new(big.Int).Lsh(a.number(), 1)} }
func (a *Box) Times(k scalar.Scalar) *Box { return &Box{new(big.Int).Mul(a.number(), NumberOf(k))} }
func (a *Box) Same(b *Box) bool           { return a.number().Cmp(b.number()) == 0 }
func (a *Box) Encode() api.Bytes32        { return Bytes32(a.number()) }

func (a *Box) Decode(b api.Bytes32) (*Box, api.Errno) {
	return &Box{Number(b[:])}, api.OK
}

// Wild: no group at all: nothing that its methods answer fits together.
type Wild uint8

// What msm.Group asks for.
func (a Wild) Add(b Wild) Wild                        { return a ^ b*3 + 1 }
func (a Wild) Neg() Wild                              { return a + 5 }
func (a Wild) Double() Wild                           { return a*7 + 3 }
func (a Wild) Times(k scalar.Scalar) Wild             { return a ^ Wild(k[0]) }
func (a Wild) Same(b Wild) bool                       { return (a+b)%3 == 0 }
func (a Wild) Encode() api.Bytes32                    { return api.Bytes32{byte(a)} }
func (a Wild) Decode(b api.Bytes32) (Wild, api.Errno) { return a + Wild(b[0]), api.ErrShort }

// Kind: a group, and how its elements stand for numbers.
type Kind[P msm.Group[P]] struct {
	Name  string
	Width int                          // so many numbers at most
	Of    func(m *Maker, ns Numbers) P // by any of its looks
	To    func(a P) Numbers
}

// Any: the numbers of an element; none at all, and zeros in between, come up often.
func (k Kind[P]) Any(m *Maker) Numbers {
	ns := make(Numbers, m.Next()%uint64(k.Width+1))
	for i := range ns {
		ns[i] = m.Number()
	}
	return ns
}

// Is: does an element stand for these numbers?
func (k Kind[P]) Is(got P, want Numbers) bool {
	k.Of(new(Maker), want) // so that a Point's number is known
	return k.To(got).Same(want)
}

// Lines: the group of the scalars.
func Lines() Kind[msm.Line] {
	return Kind[msm.Line]{"Line", 1,
		func(m *Maker, ns Numbers) msm.Line { return msm.Line{K: m.Limbs(ns.At(0))} },
		func(a msm.Line) Numbers { return Numbers{NumberOf(a.K)} },
	}
}

// Frees: the group of the lists of scalars.
func Frees() Kind[msm.Free] {
	return Kind[msm.Free]{"Free", 5,
		func(m *Maker, ns Numbers) msm.Free {
			a := msm.Free{}
			for _, n := range ns {
				a.K = append(a.K, m.Limbs(n))
			}
			for range m.Next() % 3 {
				a.K = append(a.K, m.Limbs(new(big.Int)))
			}
			return a
		},
		func(a msm.Free) Numbers {
			list := make(Numbers, len(a.K))
			for i, k := range a.K {
				list[i] = NumberOf(k)
			}
			return list
		},
	}
}

// Boxes: the group of the tests' own.
func Boxes() Kind[*Box] {
	return Kind[*Box]{"a group of the test's own", 1,
		func(m *Maker, ns Numbers) *Box {
			if ns.At(0).Sign() == 0 && m.Next()%2 == 0 {
				return nil
			}
			far := new(big.Int).Mul(L(), big.NewInt(int64(m.Next()%9)-4))
			return &Box{far.Add(far, ns.At(0))}
		},
		func(a *Box) Numbers { return Numbers{a.number()} },
	}
}

// Points: the element of a number is that multiple of the base element. The way back is a list of all that were made.
func Points() Kind[group.Point] {
	made := map[api.Bytes32]*big.Int{}
	multiple := func(n *big.Int) group.Point { return group.Base().Times(Scalar(n)) }
	return Kind[group.Point]{"Point", 1,
		func(m *Maker, ns Numbers) group.Point {
			a := multiple(ns.At(0))
			made[a.Encode()] = ns.At(0)
			if ns.At(0).Sign() == 0 && m.Next()%2 == 0 {
				return group.Point{}
			}
			look, _ := group.FromCurve(a.Coset()[m.Next()%4])
			return look
		},
		func(a group.Point) Numbers {
			if n, ok := made[a.Encode()]; ok {
				return Numbers{n}
			}
			return Numbers{big.NewInt(-1)} // not from 0 to l - 1: no element stands for it
		},
	}
}
