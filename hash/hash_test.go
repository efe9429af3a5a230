package hash_test

import (
	"bytes"
	"crypto/sha512"
	"math"
	"slices"
	"testing"

	"veil/api"
	"veil/hash"
	"veil/sample"
)

// edges: lengths at which a block, or the room behind the bytes in it, is just filled; 128 and 384 are whole blocks ahead of them.
func edges() (list []int) {
	for _, blocks := range []int{0, 128, 384} {
		for _, n := range []int{0, 1, 55, 56, 63, 64, 110, 111, 112, 113, 119, 120, 126, 127, 128, 129} {
			list = append(list, blocks+n)
		}
	}
	return list
}

// whole: the hash by the library.
func whole(b []byte) api.Bytes64 { return sha512.Sum512(b) }

// is: a State tells the hash and the length of these bytes.
func is(t *testing.T, s *hash.State, b []byte) {
	t.Helper()
	if got := s.Sum(); got != whole(b) {
		t.Fatalf("Sum of %d bytes = %x, want %x", len(b), got, whole(b))
	}
	if s.Size() != len(b) {
		t.Fatalf("Size %d, want %d", s.Size(), len(b))
	}
}

// cut: the bytes in pieces of n.
func cut(b []byte, n int) [][]byte { return slices.Collect(slices.Chunk(b, n)) }

func TestP301NoState(t *testing.T) {
	var none *hash.State
	for _, s := range []*hash.State{none, {}, new(hash.State)} {
		for range 2 {
			s.Write([]byte("abc"))
			s.Write(make([]byte, 300))
			s.Write(nil)
			if s.Sum() != (api.Bytes64{}) || s.Size() != 0 || s.Clone() != nil {
				t.Errorf("a State that no call made: Size %d, Sum %x", s.Size(), s.Sum())
			}
			s.Reset()
			if s.Sum() != (api.Bytes64{}) || s.Size() != 0 || s.Clone() != nil {
				t.Errorf("behind Reset: Size %d, Sum %x", s.Size(), s.Sum())
			}
		}
	}
}

func TestP301NilAndEmpty(t *testing.T) {
	nothing := whole(nil)
	none := []byte{}
	s := hash.New()
	s.Write(nil)
	s.Write(none)
	is(t, s, nil)
	if hash.Sum() != nothing || hash.Sum(nil) != nothing || hash.Sum(none, nil) != nothing || hash.Sum([][]byte{}...) != nothing {
		t.Error("Sum of nothing")
	}
	mac := hash.Mac(nil)
	if hash.Mac(none) != mac || hash.Mac(nil, nil, none) != mac || hash.Mac(nil, [][]byte{}...) != mac {
		t.Error("Mac of nothing")
	}
	if !bytes.Equal(hash.Stretch(nil, 100), hash.Stretch(none, 100)) {
		t.Error("Stretch of nothing")
	}
	if hash.Root() != nothing || hash.Root([][]byte{}...) != nothing || hash.Root(nil, none) != hash.Root(none, nil) || hash.Root(nil) != hash.Root(none) {
		t.Error("Root of nothing")
	}
}

// lent: bytes with room behind them, whose room is filled too.
func lent(m *sample.Maker, n int) []byte { return m.Bytes(n + 200)[:n] }

func TestP301HandedInIsLeft(t *testing.T) {
	m := sample.Maker(301)
	for _, n := range edges() {
		parts := [][]byte{lent(&m, n), nil, lent(&m, 5), lent(&m, n), {}}
		var was [][]byte
		for _, part := range parts {
			was = append(was, slices.Clone(part[:cap(part)]))
		}
		list := slices.Clone(parts)
		s := hash.New()
		s.Write(parts[0])
		s.Sum()
		s.Clone().Write(parts[2])
		hash.Sum(parts...)
		hash.Mac(parts[0], parts...)
		hash.Stretch(parts[0], 100)
		hash.Root(parts...)
		for i, part := range parts {
			if !bytes.Equal(part[:cap(part)], was[i]) || (part == nil) != (list[i] == nil) || len(part) != len(list[i]) {
				t.Errorf("%d bytes: part %d was changed", n, i)
			}
		}
	}
}

func TestP301HandedInIsNotKept(t *testing.T) {
	m := sample.Maker(302)
	for _, n := range edges() {
		b := m.Bytes(n)
		was := slices.Clone(b)
		s := hash.New()
		s.Write(b)
		c := s.Clone()
		clear(b)
		is(t, s, was)
		is(t, c, was)
	}
}

func TestP301StretchIsNewMemory(t *testing.T) {
	seed := []byte("seed")
	a := hash.Stretch(seed, 200)
	was := slices.Clone(a)
	b := hash.Stretch(seed, 200)
	clear(a[:cap(a)])
	if !bytes.Equal(b, was) || !bytes.Equal(hash.Stretch(seed, 200), was) {
		t.Error("what is written into one stream is seen in another")
	}
	if !bytes.Equal(seed, []byte("seed")) {
		t.Error("what is written into a stream is seen in its seed")
	}
}

func TestP302EveryLength(t *testing.T) {
	m := sample.Maker(303)
	b := m.Bytes(700)
	for n := range len(b) + 1 {
		s := hash.New()
		s.Write(b[:n])
		is(t, s, b[:n])
		if hash.Sum(b[:n]) != whole(b[:n]) {
			t.Errorf("Sum of %d bytes", n)
		}
	}
}

// pieces: bytes in pieces of n, with Sum and Clone asked between them.
func pieces(t *testing.T, b []byte, n int) {
	t.Helper()
	s, from := hash.New(), 0
	for _, piece := range cut(b, n) {
		c := s.Clone()
		s.Write(piece)
		is(t, c, b[:from])
		from += len(piece)
		is(t, s, b[:from])
		c.Write([]byte("other"))
		is(t, s, b[:from])
		is(t, s, b[:from])
	}
	is(t, s, b)
}

func TestP302PiecesOfEverySize(t *testing.T) {
	m := sample.Maker(304)
	b := m.Bytes(530)
	for n := 1; n <= len(b); n++ {
		pieces(t, b, n)
	}
}

func TestP302Reset(t *testing.T) {
	m := sample.Maker(305)
	for _, n := range edges() {
		b := m.Bytes(n)
		s := hash.New()
		s.Write(b)
		c := s.Clone()
		s.Reset()
		is(t, s, nil)
		is(t, c, b)
		s.Write(b[n/2:])
		is(t, s, b[n/2:])
		c.Reset()
		is(t, c, nil)
		is(t, s, b[n/2:])
	}
}

func TestP302CloneIsApart(t *testing.T) {
	m := sample.Maker(306)
	for _, n := range edges() {
		b, x, y := m.Bytes(n), m.Bytes(150), m.Bytes(90)
		s := hash.New()
		s.Write(b)
		c := s.Clone()
		d := c.Clone()
		s.Write(x)
		c.Write(y)
		is(t, s, slices.Concat(b, x))
		is(t, c, slices.Concat(b, y))
		is(t, d, b)
		s.Write(y)
		is(t, s, slices.Concat(b, x, y))
		is(t, c, slices.Concat(b, y))
	}
}

func TestP303Cuts(t *testing.T) {
	m := sample.Maker(307)
	for _, n := range edges() {
		b := m.Bytes(n)
		for k := range n + 1 {
			if hash.Sum(b[:k], b[k:]) != whole(b) || hash.Sum(nil, b[:k], nil, b[k:], []byte{}) != whole(b) {
				t.Fatalf("%d bytes, cut at %d", n, k)
			}
		}
		for k := 1; k <= n; k++ {
			if hash.Sum(cut(b, k)...) != whole(b) {
				t.Fatalf("%d bytes, in parts of %d", n, k)
			}
		}
	}
}

func TestP303Long(t *testing.T) {
	m := sample.Maker(308)
	for _, n := range []int{1 << 13, 1<<16 - 1, 1 << 20} {
		b := m.Bytes(n)
		if hash.Sum(b) != whole(b) || hash.Sum(cut(b, 1000)...) != whole(b) {
			t.Errorf("Sum of %d bytes", n)
		}
	}
	a := bytes.Repeat([]byte("a"), 1000000) // of the standard
	if got := hash.Sum(a); got[0] != 0xe7 || got[63] != 0x9b || got != whole(a) {
		t.Errorf("Sum of a million a's = %x", got)
	}
}

// tracked: a State and all bytes that it must have taken.
type tracked struct {
	state *hash.State
	bytes []byte
}

// step: one call on one of the States, as the maker will.
func step(m *sample.Maker, all []tracked, b []byte) []tracked {
	i := int(m.Next() % uint64(len(all)))
	one := &all[i]
	switch m.Next() % 16 {
	case 0:
		one.state.Reset()
		one.bytes = nil
	case 1, 2:
		all[m.Next()%uint64(len(all))] = tracked{one.state.Clone(), slices.Clone(one.bytes)}
	case 3, 4:
		one.state.Sum()
	case 5:
		if len(all) < 12 {
			return append(all, tracked{hash.New(), nil})
		}
	default:
		from := m.Next() % uint64(len(b))
		piece := b[from:min(len(b), int(from+m.Next()%200))]
		one.state.Write(piece)
		one.bytes = append(one.bytes, piece...)
	}
	return all
}

func TestP307AnyOrderOverAnyStates(t *testing.T) {
	m := sample.Maker(309)
	b := m.Bytes(1000)
	all := []tracked{{hash.New(), nil}}
	for i := range 20000 {
		all = step(&m, all, b)
		one := all[i%len(all)]
		is(t, one.state, one.bytes)
	}
	for _, one := range all {
		is(t, one.state, one.bytes)
		if hash.Sum(one.bytes) != one.state.Sum() {
			t.Errorf("%d bytes: at once other than in pieces", len(one.bytes))
		}
	}
}

func TestP305Limits(t *testing.T) {
	for _, n := range []int{-1, -2, -64, math.MinInt, api.MaxStream + 1, api.MaxStream + 64, math.MaxInt} {
		if got := hash.Stretch([]byte("seed"), n); len(got) != 0 {
			t.Errorf("Stretch(seed, %d) has %d bytes", n, len(got))
		}
	}
}
