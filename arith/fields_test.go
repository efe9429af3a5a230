package arith_test

// P2108: the bytes of a proof.

import (
	"bytes"
	"math/big"
	"slices"
	"testing"

	"veil/api"
	"veil/arith"
	"veil/group"
	"veil/msm"
	"veil/sample"
)

// bytesOf: the bytes of a proof, by the document's order.
func bytesOf[P msm.Group[P]](kind sample.Kind[P], x sent) []byte {
	var b []byte
	element := func(ns numbers) {
		next := kind.Of(new(sample.Maker), ns).Encode()
		b = append(b, next[:]...)
	}
	for _, ns := range []numbers{x.ai, x.ao, x.s, x.t1, x.t3, x.t4, x.t5, x.t6} {
		element(ns)
	}
	for _, n := range []*big.Int{x.taux, x.mu, x.that} {
		b = append(b, sample.Bytes(n, 32)...)
	}
	for t := range x.left {
		element(x.left[t])
		element(x.right[t])
	}
	return append(append(b, sample.Bytes(x.ea, 32)...), sample.Bytes(x.eb, 32)...)
}

// anyRounds: a proof that nobody made, with so many rounds.
func anyRounds[P msm.Group[P]](m *sample.Maker, kind sample.Kind[P], rounds int) sent {
	gates := 0
	if rounds > 0 {
		gates = 1 << rounds
	}
	return anySent(m, kind, system{gates: gates})
}

func writtenOver[P msm.Group[P]](t *testing.T, m *sample.Maker, kind sample.Kind[P], read bool) {
	t.Helper()
	for rounds := range api.MaxRounds + 1 {
		x := anyRounds(m, kind, rounds)
		want := bytesOf(kind, x)
		b, e := arith.EncodeProof(proofOf(m, kind, x))
		errno(t, "EncodeProof", e, api.OK)
		if !bytes.Equal(b, want) || len(b) != 32*(13+2*rounds) {
			t.Fatalf("over %s: EncodeProof: %x, want %x", kind.Name, b, want)
		}
		p, e := arith.DecodeProof[P](want)
		if !read {
			noProof(t, "DecodeProof", nil, p, e, api.ErrPoint)
			continue
		}
		errno(t, "DecodeProof over "+kind.Name, e, api.OK)
		isProof(t, "DecodeProof", kind, p, x)
		if again, e := arith.EncodeProof(p); e != api.OK || !bytes.Equal(again, want) {
			t.Errorf("over %s: read and written again it is %x, want %x", kind.Name, again, want)
		}
	}
}

func TestP2108ThereAndBack(t *testing.T) {
	m := sample.Maker(2108)
	for range 3 {
		writtenOver(t, &m, sample.Lines(), true)
		writtenOver(t, &m, sample.Boxes(), true)
		writtenOver(t, &m, sample.Frees(), false)
	}
	writtenOver(t, &m, sample.Points(), true)
}

// Each length up to the greatest proof's and beyond.
func TestP2108Lengths(t *testing.T) {
	whole := make([]byte, 32*40)
	for length := range len(whole) {
		want := right(length >= 32*13 && length <= 32*33 && length%64 == 32, api.ErrLength)
		p, e := arith.DecodeProof[msm.Line](whole[:length])
		errno(t, "DecodeProof over Line", e, want)
		q, f := arith.DecodeProof[group.Point](whole[:length])
		errno(t, "DecodeProof over Point", f, want)
		if want != api.OK {
			noProof(t, "DecodeProof", nil, p, e, want)
			noProof(t, "DecodeProof", nil, q, f, want)
			continue
		}
		if k := (length/32 - 13) / 2; len(p.L) != k || len(p.R) != k || len(q.L) != k || len(q.R) != k {
			t.Errorf("%d bytes: %d, %d, %d, %d of L and R", length, len(p.L), len(p.R), len(q.L), len(q.R))
		}
	}
	// Of a wrong length nothing else is looked at.
	for i := range whole {
		whole[i] = 255
	}
	for _, length := range []int{0, 1, 32, 415, 417, 448, 1055, 1057, 1088, 1120, 1280} {
		_, e := arith.DecodeProof[group.Point](whole[:length])
		errno(t, "DecodeProof", e, api.ErrLength)
	}
	_, e := arith.DecodeProof[msm.Line](nil)
	errno(t, "DecodeProof of nothing", e, api.ErrLength)
}

func TestP2108LengthsOfEncodeProof(t *testing.T) {
	for l := range 14 {
		for r := range 14 {
			p := arith.Proof[msm.Line]{AI: line(1), L: make([]msm.Line, l), R: make([]msm.Line, r)}
			b, e := arith.EncodeProof(p)
			want := right(l == r && l <= 10, api.ErrLength)
			errno(t, "EncodeProof", e, want)
			if want == api.OK && len(b) != 32*(13+2*l) || want != api.OK && len(b) != 0 {
				t.Errorf("%d of L, %d of R: %d bytes", l, r, len(b))
			}
		}
	}
}

// isScalar: is the part in this place of a proof with so many rounds a scalar?
func isScalar(place, rounds int) bool {
	return place >= 8 && place < 11 || place >= 11+2*rounds
}

// notCanonical: bytes of no scalar.
func notCanonical() [][]byte {
	l := sample.L()
	most := new(big.Int).Sub(sample.Power2(256), big.NewInt(1))
	return [][]byte{sample.Bytes(l, 32), sample.Bytes(new(big.Int).Add(l, big.NewInt(1)), 32), sample.Bytes(most, 32), sample.Bytes(sample.Power2(255), 32)}
}

// Bytes that are no scalar and no element, at each place; of two the first is told.
func TestP2108Faults(t *testing.T) {
	m := sample.Maker(21080)
	kind := sample.Points()
	point := api.Bytes32(sample.Bytes(big.NewInt(2), 32)) // it is a field element, but of no group element
	_, wrongPoint := group.Point{}.Decode(point)
	if wrongPoint != api.ErrPoint {
		t.Fatalf("2 is an element: %d", wrongPoint)
	}
	for _, rounds := range []int{0, 1, 3} {
		good := bytesOf(kind, anyRounds(&m, kind, rounds))
		with := func(faults map[int][]byte) []byte {
			b := slices.Clone(good)
			for place, part := range faults {
				copy(b[32*place:], part)
			}
			return b
		}
		fault := func(place int, part []byte) api.Errno {
			if isScalar(place, rounds) {
				return api.ErrCanon
			}
			_, e := group.Point{}.Decode(api.Bytes32(part))
			return e
		}
		for place := range 13 + 2*rounds {
			bad := notCanonical()
			if !isScalar(place, rounds) {
				bad = append(bad, point[:])
			}
			for _, part := range bad {
				p, e := arith.DecodeProof[group.Point](with(map[int][]byte{place: part}))
				noProof(t, "DecodeProof", nil, p, e, fault(place, part))
				later := place + 1 + int(m.Next()%4)
				if later >= 13+2*rounds {
					continue
				}
				other := notCanonical()[m.Next()%4]
				if !isScalar(later, rounds) {
					other = point[:]
				}
				_, e = arith.DecodeProof[group.Point](with(map[int][]byte{place: part, later: other}))
				errno(t, "DecodeProof of two faults", e, fault(place, part))
			}
		}
	}
}

// Over Line both elements and scalars are scalars' bytes: each place must be canonical.
func TestP2108FaultsOverLine(t *testing.T) {
	for _, rounds := range []int{0, 2, 10} {
		for place := range 13 + 2*rounds {
			for _, part := range notCanonical() {
				b := make([]byte, 32*(13+2*rounds))
				copy(b[32*place:], part)
				p, e := arith.DecodeProof[msm.Line](b)
				noProof(t, "DecodeProof", nil, p, e, api.ErrCanon)
			}
			b := make([]byte, 32*(13+2*rounds))
			copy(b[32*place:], sample.Bytes(new(big.Int).Sub(sample.L(), big.NewInt(1)), 32))
			p, e := arith.DecodeProof[msm.Line](b)
			errno(t, "DecodeProof", e, api.OK)
			if again, _ := arith.EncodeProof(p); !bytes.Equal(again, b) {
				t.Errorf("place %d: read and written again it is another one", place)
			}
		}
	}
}

// A group of the caller's own that reads nothing: its own error is the answer, and its zero value is asked.
func TestP2108AnotherGroupsError(t *testing.T) {
	p, e := arith.DecodeProof[sample.Wild](make([]byte, 416))
	errno(t, "DecodeProof", e, api.ErrShort)
	if p.AI != 0 || p.AO != 0 || p.T6 != 0 || len(p.L) != 0 {
		t.Error("a proof beside an error")
	}
}

// Bytes that are made up are refused, or are those of what they say.
func TestP2108MadeUp(t *testing.T) {
	m := sample.Maker(21081)
	kind := sample.Points()
	met := map[api.Errno]int{}
	for range 400 {
		b := bytesOf(kind, anyRounds(&m, kind, int(m.Next()%3)))
		for range m.Next() % 3 {
			b[m.Next()%uint64(len(b))] ^= 1 << (m.Next() % 8)
		}
		p, e := arith.DecodeProof[group.Point](b)
		met[e]++
		if e != api.OK {
			continue
		}
		if again, e := arith.EncodeProof(p); e != api.OK || !bytes.Equal(again, b) {
			t.Fatalf("read and written again it is %x, was %x", again, b)
		}
	}
	for _, e := range []api.Errno{api.OK, api.ErrCanon, api.ErrPoint} {
		if met[e] == 0 {
			t.Errorf("met %v", met)
		}
	}
}
