package msm_test

// P701, and the document's rules: what is handed in is left alone, what is handed out is new, and all calls end.

import (
	"slices"
	"testing"

	"veil/api"
	"veil/msm"
	"veil/sample"
	"veil/scalar"
)

type freeTerm = msm.Term[msm.Free]

// handed: terms of Free elements in a room with others behind them, and the scalars of every element in a room of its own, with others behind them.
type handed struct {
	room  []freeTerm
	rooms [][]scalar.Scalar
}

func hand(m *sample.Maker, count int) handed {
	h := handed{}
	for range count {
		room := make([]scalar.Scalar, 6)
		for i := range room {
			room[i] = m.Limbs(m.Number())
		}
		h.rooms = append(h.rooms, room)
		h.room = append(h.room, freeTerm{K: m.Limbs(m.Number()), P: msm.Free{K: room[:m.Next()%5]}})
	}
	return h
}

// copied: the same in another place.
func (h handed) copied() handed {
	c := handed{room: slices.Clone(h.room)}
	for _, room := range h.rooms {
		c.rooms = append(c.rooms, slices.Clone(room))
	}
	return c
}

// same: is nothing changed, and do the lists lie where they lay?
func (h handed) same(was handed) bool {
	return slices.EqualFunc(h.rooms, was.rooms, slices.Equal[[]scalar.Scalar]) &&
		slices.EqualFunc(h.room, was.room, func(a, b freeTerm) bool {
			return a.K == b.K && len(a.P.K) == len(b.P.K) && cap(a.P.K) == cap(b.P.K) && &a.P.K[:1][0] == &b.P.K[:1][0]
		})
}

// places: where the scalars of elements stand, with the room behind them.
func places(elements ...msm.Free) []*scalar.Scalar {
	var list []*scalar.Scalar
	for _, a := range elements {
		whole := a.K[:cap(a.K)]
		for i := range whole {
			list = append(list, &whole[i])
		}
	}
	return list
}

// everyElement: all elements that the calls answer for these terms.
func everyElement(terms []freeTerm) []msm.Free {
	a, b := terms[0].P, terms[1].P
	list := []msm.Free{a.Add(b), a.Add(msm.Free{}), msm.Free{}.Add(a), a.Neg(), a.Double(), a.Times(scalar.Int(1)), a.Times(terms[0].K), b.Double().Neg()}
	for _, some := range [][]freeTerm{terms, terms[:1], {{K: scalar.Int(1), P: a}}, {{K: scalar.Int(1).Neg(), P: a}}, {{K: scalar.Int(2), P: a}}, {{K: scalar.Int(1), P: a}, {P: b}}} {
		sum, _ := msm.Sum(some...)
		list = append(list, msm.Plain(some...), sum)
		for w := 1; w <= 12; w++ {
			straus, _, _ := msm.Straus(min(w, 8), some...)
			pippenger, _, _ := msm.Pippenger(w, some...)
			list = append(list, straus, pippenger)
		}
	}
	return list
}

func TestP701Memory(t *testing.T) {
	m := sample.Maker(731)
	for _, count := range []int{4, 5, 20} {
		given := hand(&m, count)
		was := given.copied()
		terms := given.room[:count-2]
		got, again := everyElement(terms), everyElement(terms)

		taken := map[*scalar.Scalar]int{}
		for _, room := range given.rooms {
			for i := range room {
				taken[&room[i]]++
			}
		}
		for _, place := range places(append(slices.Clone(got), again...)...) {
			taken[place]++
			if taken[place] > 1 {
				t.Fatalf("an answer of %d terms shares memory", count)
			}
		}
		for i := range got {
			want := slices.Clone(again[i].K)
			for _, place := range places(got[i]) {
				*place = scalar.Int(99)
			}
			got[i].K = append(got[i].K, scalar.Int(99))
			if !slices.Equal(again[i].K, want) {
				t.Errorf("answer %d: what was written into it is seen in another", i)
			}
		}
		for _, a := range terms {
			a.P.Encode()
			a.P.Same(terms[0].P)
			a.P.Decode(api.Bytes32{})
		}
		if !given.same(was) {
			t.Errorf("a list that was handed in, or the room behind it, has changed")
		}
	}
}

// Zip's list is new; the elements in it are those that were handed in.
func TestP701P708ZipMemory(t *testing.T) {
	m := sample.Maker(732)
	ks := []scalar.Scalar{m.Limbs(m.Number()), scalar.Int(2), scalar.Int(3), scalar.Int(4)}
	ps := []msm.Line{lines().Of(&m, sample.Small(5)), {K: scalar.Int(6)}, {K: scalar.Int(7)}, {K: scalar.Int(8)}}
	wasKs, wasPs := slices.Clone(ks), slices.Clone(ps)
	first, _ := msm.Zip(ks[:3], ps[:3])
	second, _ := msm.Zip(ks[:3], ps[:3])
	for i := range first {
		first[i] = msm.Term[msm.Line]{}
	}
	first = append(first, msm.Term[msm.Line]{})
	third, _ := msm.Zip(ks[:3], ps[:3])
	if !slices.Equal(second, third) || len(second) != 3 {
		t.Errorf("what was written into an answer is seen in another")
	}
	if !slices.Equal(ks, wasKs) || !slices.Equal(ps, wasPs) {
		t.Errorf("a list that was handed in, or the room behind it, has changed")
	}
}

// An answer looks the same, whatever the terms look like.
func TestP701AnswersOfOtherLooks(t *testing.T) {
	for _, count := range []int{0, 1, 2, 7} {
		var first []msm.Free
		for look := range 5 {
			m := sample.Maker(733)
			other := sample.Maker(look)
			c := sums[msm.Free]{}
			for range count + 2 {
				c = frees().more(&other, c, m.Number(), frees().Any(&m))
			}
			got := everyElement(c.terms)
			if first == nil {
				first = got
			}
			if !slices.EqualFunc(got, first, func(a, b msm.Free) bool { return slices.Equal(a.K, b.K) }) {
				t.Errorf("terms by other looks give another answer")
			}
		}
	}
}

// P4: a list that is nil and one that is empty are the same.
func TestP701NilAndEmpty(t *testing.T) {
	empty := msm.Free{K: []scalar.Scalar{}}
	if !empty.Same(msm.Free{}) || empty.Encode() != (msm.Free{}).Encode() || len(empty.Add(msm.Free{}).K) != 0 {
		t.Errorf("an empty list is not the neutral element")
	}
	terms, e := msm.Zip([]scalar.Scalar{}, []msm.Free(nil))
	if e != api.OK || len(terms) != 0 {
		t.Errorf("Zip of an empty list and a nil one: %v, error %d", terms, e)
	}
}

// A panic in any call fails the test.
func TestP701EveryCallEndsOverAnyType(t *testing.T) {
	m := sample.Maker(734)
	for count := range 40 {
		terms := make([]msm.Term[sample.Wild], count)
		for i := range terms {
			terms[i] = msm.Term[sample.Wild]{K: m.Limbs(m.Number()), P: sample.Wild(m.Next())}
		}
		msm.Plain(terms...)
		msm.Sum(terms...)
		for w := -1; w <= 14; w++ {
			msm.Straus(w, terms...)
			msm.Pippenger(w, terms...)
		}
	}
}
