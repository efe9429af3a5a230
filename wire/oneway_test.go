package wire_test

// P1009: what is read is written again as the same bytes, and what is written is read as what it was. P1010: no two byte strings give the same.

import (
	"bytes"
	"encoding/hex"
	"testing"

	"veil/api"
	"veil/group"
	"veil/msm"
	"veil/sample"
	"veil/wire"
)

// again: a number that is read up to the end is written again as the same bytes. It is told whether it was taken.
func again(t *testing.T, b []byte) (uint64, bool) {
	t.Helper()
	r := wire.NewReader(b)
	n := r.Number(anySize)
	if r.End() != api.OK {
		return 0, false
	}
	if got := wire.AppendNumber(nil, n); !bytes.Equal(got, b) {
		t.Errorf("%v is read as %d, which is written %v", b, n, got)
	}
	return n, true
}

func TestP1009Numbers(t *testing.T) {
	for _, n := range numbers() {
		r := wire.NewReader(wire.AppendNumber(nil, n))
		if got := r.Number(n); got != n || r.End() != api.OK {
			t.Errorf("%d is read as %d, %d", n, got, r.Err())
		}
	}
	for length := range 12 {
		b := bytes.Repeat([]byte{200}, length)
		for i := range 256 {
			again(t, append(b, byte(i)))
		}
	}
}

// Of all strings of up to two bytes, and some of three, no two are the same number.
func TestP1010Numbers(t *testing.T) {
	from := map[uint64][]byte{}
	try := func(b []byte) {
		n, ok := again(t, b)
		if other, there := from[n]; ok && there {
			t.Errorf("%v and %v are both %d", other, b, n)
		} else if ok {
			from[n] = b
		}
	}
	try(nil)
	for i := range 256 {
		try([]byte{byte(i)})
		for j := range 256 {
			try([]byte{byte(i), byte(j)})
			try([]byte{byte(i), byte(j), byte(i ^ j)})
			try([]byte{byte(i), byte(j), 0})
		}
	}
	for n := range uint64(128 * 128) {
		if _, there := from[n]; !there {
			t.Errorf("nothing is read as %d", n)
		}
	}
}

func TestP1009Bytes(t *testing.T) {
	m := sample.Maker(1009)
	for _, n := range []int{0, 1, 2, 127, 128, 500, 20000} {
		x := m.Bytes(n)
		r := wire.NewReader(wire.AppendBytes(nil, x))
		if got := r.Bytes(n); !bytes.Equal(got, x) || r.End() != api.OK {
			t.Errorf("a list of %d bytes: %d", n, r.Err())
		}
	}
	for range 20000 {
		b := m.Bytes(int(m.Next() % 5))
		if len(b) > 0 && m.Next()%2 == 0 {
			b[0] %= 6
		}
		r := wire.NewReader(b)
		if x := r.Bytes(9); r.End() == api.OK && !bytes.Equal(wire.AppendBytes(nil, x), b) {
			t.Errorf("%v is read as %v", b, x)
		}
	}
}

// Of all short strings no two are the same list of bytes.
func TestP1010Bytes(t *testing.T) {
	from := map[string][]byte{}
	edges := []byte{0, 1, 2, 3, 4, 127, 128, 129, 255}
	strings := [][]byte{nil}
	for i := 0; i < len(strings); i++ {
		b := strings[i]
		r := wire.NewReader(b)
		x := r.Bytes(300)
		if r.End() == api.OK {
			if other, there := from[string(x)]; there {
				t.Errorf("%v and %v are both %v", other, b, x)
			}
			from[string(x)] = b
		}
		for _, c := range edges {
			if len(b) < 5 {
				strings = append(strings, append(bytes.Clone(b), c))
			}
		}
	}
	if len(from) != 1+9+81+729+9*729 {
		t.Errorf("%d lists of bytes were read", len(from))
	}
}

func TestP1009ScalarsAndPoints(t *testing.T) {
	m := sample.Maker(10090)
	for _, c := range codes(&m) {
		r := wire.NewReader(c[:])
		if k := r.Scalar(); r.End() == api.OK && k.Encode() != c {
			t.Errorf("%x is read as the scalar %v", c, k)
		}
		r = wire.NewReader(c[:])
		if p := wire.Point[group.Point](r); r.End() == api.OK && p.Encode() != c {
			t.Errorf("%x is read as the element %v", c, p)
		}
		r = wire.NewReader(c[:])
		if p := wire.Point[msm.Line](r); r.End() == api.OK && p.Encode() != c {
			t.Errorf("%x is read as the scalar %v", c, p)
		}
	}
}

// turned: with any bit turned a proof's bytes are refused, or are those of another proof.
func turned[P msm.Group[P]](t *testing.T, kind sample.Kind[P], k int) {
	m := sample.Maker(1010)
	_, b := proof(&m, kind, k)
	was, _ := wire.DecodeProof[P](b)
	taken := 0
	for i := range 8 * len(b) {
		b[i/8] ^= 1 << (i % 8)
		p, e := wire.DecodeProof[P](b)
		if e == api.OK {
			taken++
			if got, f := wire.EncodeProof(p); f != api.OK || !bytes.Equal(got, b) {
				t.Errorf("%s, bit %d: other bytes, %d", kind.Name, i, f)
			}
			if sameProof(p, was) {
				t.Errorf("%s, bit %d: the same proof", kind.Name, i)
			}
		}
		b[i/8] ^= 1 << (i % 8)
	}
	if taken == 0 || taken == 8*len(b) {
		t.Errorf("%s: %d were taken", kind.Name, taken)
	}
}

func TestP1010Proofs(t *testing.T) {
	turned(t, sample.Lines(), 0)
	turned(t, sample.Lines(), 10)
	turned(t, sample.Points(), 1)
}

// back: what EncodeProof writes is read as the proof that it was, and that is written as the same bytes.
func back[P msm.Group[P]](t *testing.T, kind sample.Kind[P]) {
	m := sample.Maker(10091)
	for k := range 11 {
		p, _ := proof(&m, kind, k)
		b, e := wire.EncodeProof(p)
		q, f := wire.DecodeProof[P](b)
		c, g := wire.EncodeProof(q)
		if e != api.OK || f != api.OK || g != api.OK || !sameProof(p, q) || !bytes.Equal(b, c) {
			t.Errorf("%s, %d rounds: %d, %d, %d", kind.Name, k, e, f, g)
		}
	}
}

func TestP1009Proofs(t *testing.T) {
	back(t, sample.Lines())
	back(t, sample.Points())
	back(t, sample.Boxes())
}

func TestP1009Hex(t *testing.T) {
	m := sample.Maker(10092)
	for n := range 100 {
		b := m.Bytes(n)
		if got, e := wire.Unhex(wire.Hex(b)); e != api.OK || !bytes.Equal(got, b) {
			t.Errorf("Unhex(Hex(%v)) = %v, %d", b, got, e)
		}
		s := hex.EncodeToString(b)
		if got, _ := wire.Unhex(s); wire.Hex(got) != s {
			t.Errorf("Hex(Unhex(%q)) = %q", s, wire.Hex(got))
		}
	}
}
