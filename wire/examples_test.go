package wire_test

// The examples of the chapter, by their numbers.

import (
	"bytes"
	"slices"
	"testing"

	"veil/api"
	"veil/group"
	"veil/msm"
	"veil/sample"
	"veil/wire"
)

func TestExample1Writing(t *testing.T) {
	nines := bytes.Repeat([]byte{255}, 9)
	for _, c := range []struct {
		n    uint64
		want []byte
	}{{0, []byte{0}}, {127, []byte{127}}, {128, []byte{128, 1}}, {300, []byte{172, 2}}, {1<<64 - 1, append(nines, 1)}} {
		if got := wire.AppendNumber(nil, c.n); !bytes.Equal(got, c.want) {
			t.Errorf("AppendNumber(nil, %d) = %v", c.n, got)
		}
	}
	if got := wire.AppendBytes([]byte{9}, []byte{7, 8}); !bytes.Equal(got, []byte{9, 2, 7, 8}) {
		t.Errorf("AppendBytes = %v", got)
	}
}

func TestExample2Numbers(t *testing.T) {
	nines := bytes.Repeat([]byte{255}, 9)
	for _, c := range []struct {
		b    []byte
		want uint64
		e    api.Errno
	}{{[]byte{128, 1}, 128, api.OK}, {[]byte{128, 0}, 0, api.ErrNumber}, {[]byte{128}, 0, api.ErrEnd}, {nil, 0, api.ErrEnd}, {append(nines, 2), 0, api.ErrNumber}, {bytes.Repeat([]byte{128}, 10), 0, api.ErrNumber}} {
		r := wire.NewReader(c.b)
		if got := r.Number(1000); got != c.want || r.Err() != c.e {
			t.Errorf("Number(1000) over %v = %d, %d", c.b, got, r.Err())
		}
	}
	r := wire.NewReader([]byte{101})
	if r.Number(100) != 0 || r.Err() != api.ErrNumber || r.Left() != 1 {
		t.Errorf("Number(100) over 101: %d, %d left", r.Err(), r.Left())
	}
}

func TestExample3Bytes(t *testing.T) {
	r := wire.NewReader([]byte{3, 1, 2, 3, 4})
	if got := r.Bytes(3); !bytes.Equal(got, []byte{1, 2, 3}) || r.Left() != 1 || r.End() != api.ErrRest || r.Number(9) != 0 {
		t.Errorf("Bytes(3): %v, %d", got, r.Err())
	}
	r = wire.NewReader([]byte{3, 1, 2, 3})
	if got := r.Bytes(2); len(got) != 0 || r.Err() != api.ErrCount || r.Left() != 4 {
		t.Errorf("Bytes(2): %v, %d", got, r.Err())
	}
	r = wire.NewReader([]byte{3, 1, 2})
	if got := r.Bytes(9); len(got) != 0 || r.Err() != api.ErrEnd || r.Left() != 3 {
		t.Errorf("Bytes(9): %v, %d", got, r.Err())
	}
}

func TestExample4Lists(t *testing.T) {
	l := sample.Bytes32(sample.L())
	for _, c := range []struct {
		b    []byte
		e    api.Errno
		left int
	}{{slices.Concat([]byte{1}, l[:]), api.ErrCanon, 32}, {[]byte{6}, api.ErrCount, 1}, {[]byte{0}, api.OK, 0}} {
		r := wire.NewReader(c.b)
		if got := wire.List(r, 5, (*wire.Reader).Scalar); len(got) != 0 || r.Err() != c.e || r.Left() != c.left {
			t.Errorf("over %v: %v, %d, %d left", c.b, got, r.Err(), r.Left())
		}
	}
}

func TestExample5Hex(t *testing.T) {
	if got := wire.Hex([]byte{0, 171}); got != "00ab" {
		t.Errorf("Hex = %q", got)
	}
	for _, s := range []string{"0", "0G", "AB"} {
		if b, e := wire.Unhex(s); len(b) != 0 || e != api.ErrHex {
			t.Errorf("Unhex(%q) = %v, %d", s, b, e)
		}
	}
	if b, e := wire.Unhex(""); len(b) != 0 || e != api.OK {
		t.Errorf("Unhex of nothing = %v, %d", b, e)
	}
}

func TestExample6Proofs(t *testing.T) {
	for _, n := range []int{0, 287, 289} {
		p, e := wire.DecodeProof[msm.Line](make([]byte, n))
		noProof(t, "zero bytes", p, e, api.ErrLength)
	}
	if p, e := wire.DecodeProof[msm.Line](make([]byte, 288)); e != api.OK || !sameProof(p, wire.Proof[msm.Line]{}) {
		t.Errorf("288 zero bytes over Line: %v, %d", p, e)
	}
	if p, e := wire.DecodeProof[group.Point](make([]byte, 288)); e != api.OK || !sameProof(p, wire.Proof[group.Point]{}) {
		t.Errorf("288 zero bytes over Point: %v, %d", p, e)
	}
	full := api.Bytes32(bytes.Repeat([]byte{255}, 32))
	for _, slot := range []int{4, 5, 6, 7, 8} {
		p, e := wire.DecodeProof[group.Point](at(make([]byte, 288), slot, full))
		noProof(t, "a scalar's place full of 255", p, e, api.ErrCanon)
	}
}
