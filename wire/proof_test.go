package wire_test

// P1008: the bytes of a proof.

import (
	"bytes"
	"fmt"
	"testing"

	"veil/api"
	"veil/group"
	"veil/msm"
	"veil/sample"
	"veil/wire"
)

// encodes: proofs over a group have the bytes of their parts, in order.
func encodes[P msm.Group[P]](t *testing.T, kind sample.Kind[P]) {
	m := sample.Maker(1008)
	for k := range 11 {
		p, want := proof(&m, kind, k)
		got, e := wire.EncodeProof(p)
		if e != api.OK || !bytes.Equal(got, want) || len(got) != 32*(9+2*k) {
			t.Errorf("%s, %d rounds: %d bytes, %d", kind.Name, k, len(got), e)
		}
	}
}

func TestP1008Encode(t *testing.T) {
	encodes(t, sample.Lines())
	encodes(t, sample.Frees())
	encodes(t, sample.Boxes())
	encodes(t, sample.Points())
}

func TestP1008EncodeLengths(t *testing.T) {
	for left := range 14 {
		for right := range 14 {
			p := wire.Proof[msm.Line]{L: make([]msm.Line, left), R: make([]msm.Line, right)}
			b, e := wire.EncodeProof(p)
			if left == right && left <= 10 {
				if e != api.OK || len(b) != 32*(9+2*left) {
					t.Errorf("%d rounds: %d bytes, %d", left, len(b), e)
				}
			} else if e != api.ErrLength || len(b) != 0 {
				t.Errorf("%d of L, %d of R: %d bytes, %d", left, right, len(b), e)
			}
		}
	}
	long := make([]msm.Free, 5000)
	if b, e := wire.EncodeProof(wire.Proof[msm.Free]{L: long, R: long}); e != api.ErrLength || len(b) != 0 {
		t.Errorf("5000 rounds: %d", e)
	}
}

// decodes: bytes of proofs over a group give the proofs.
func decodes[P msm.Group[P]](t *testing.T, kind sample.Kind[P]) {
	m := sample.Maker(10080)
	for k := range 11 {
		want, b := proof(&m, kind, k)
		got, e := wire.DecodeProof[P](b)
		if e != api.OK || !sameProof(got, want) || len(got.L) != k || len(got.R) != k {
			t.Errorf("%s, %d rounds: %d", kind.Name, k, e)
		}
	}
}

func TestP1008Decode(t *testing.T) {
	decodes(t, sample.Lines())
	decodes(t, sample.Boxes())
	decodes(t, sample.Points())
}

func TestP1008DecodeOverFree(t *testing.T) {
	m := sample.Maker(10081)
	for k := range 11 {
		_, b := proof(&m, sample.Frees(), k)
		p, e := wire.DecodeProof[msm.Free](b)
		noProof(t, "over Free", p, e, api.ErrPoint)
		p, e = wire.DecodeProof[msm.Free](b[1:])
		noProof(t, "over Free, a byte less", p, e, api.ErrLength)
	}
}

// zeros: so many bytes 0 are a proof just if their number is right.
func zeros[P msm.Group[P]](t *testing.T, n int) {
	t.Helper()
	k := (n - 288) / 64
	p, e := wire.DecodeProof[P](make([]byte, n))
	if n >= 288 && n == 32*(9+2*k) && k <= 10 {
		if want := (wire.Proof[P]{L: make([]P, k), R: make([]P, k)}); e != api.OK || !sameProof(p, want) {
			t.Errorf("%d zero bytes: %d", n, e)
		}
		return
	}
	noProof(t, fmt.Sprint(n, " zero bytes"), p, e, api.ErrLength)
}

func TestP1008DecodeLengths(t *testing.T) {
	for n := range 1100 {
		zeros[msm.Line](t, n)
		zeros[group.Point](t, n)
	}
	for _, n := range []int{32 * (9 + 2*12), 32 * (9 + 2*100), 1 << 16, 1<<16 + 32, 1 << 20} {
		zeros[msm.Line](t, n)
	}
}

// Bytes of a wrong length are not looked at.
func TestP1008LengthComesFirst(t *testing.T) {
	for n := range 1100 {
		if p, e := wire.DecodeProof[group.Point](bytes.Repeat([]byte{255}, n)); n%64 != 32 || n < 288 || n > 928 {
			noProof(t, fmt.Sprint(n, " bytes 255"), p, e, api.ErrLength)
		} else {
			noProof(t, fmt.Sprint(n, " bytes 255"), p, e, api.ErrCanon)
		}
	}
}

// faults: for each slot of a proof's bytes something that is not taken there, and the fault.
func faults(slots int) ([]api.Bytes32, []api.Errno) {
	codes, errors := make([]api.Bytes32, slots), make([]api.Errno, slots)
	for i := range slots {
		codes[i], errors[i] = api.Bytes32{byte(10 + i)}, api.Errno(10+i)
		if isScalar(i, slots) {
			codes[i], errors[i] = sample.Bytes32(sample.L()), api.ErrCanon
		}
	}
	return codes, errors
}

// Of any two slots that hold something wrong the first counts.
func TestP1008FirstFault(t *testing.T) {
	for _, k := range []int{0, 1, 2, 10} {
		slots := 9 + 2*k
		codes, errors := faults(slots)
		for i := range slots {
			for j := i; j < slots; j++ {
				b := at(at(make([]byte, 32*slots), j, codes[j]), i, codes[i])
				p, e := wire.DecodeProof[Picky](b)
				noProof(t, fmt.Sprint("faults at ", i, " and ", j), p, e, errors[i])
			}
		}
	}
}

// Each slot by itself, over the groups that are given.
func TestP1008EveryFault(t *testing.T) {
	m := sample.Maker(10082)
	code := sample.Bytes32(sample.L())
	for _, k := range []int{0, 1, 3, 10} {
		_, lines := proof(&m, sample.Lines(), k)
		_, points := proof(&m, sample.Points(), k)
		for i := range 9 + 2*k {
			p, e := wire.DecodeProof[msm.Line](at(lines, i, code))
			noProof(t, "Line", p, e, api.ErrCanon)
			bad := api.Bytes32{2} // even and below p, but no element's
			want := ofPoint(bad)
			if isScalar(i, 9+2*k) {
				bad, want = code, api.ErrCanon
			}
			q, e := wire.DecodeProof[group.Point](at(points, i, bad))
			noProof(t, "Point", q, e, want)
		}
	}
	if ofPoint(api.Bytes32{2}) != api.ErrPoint {
		t.Error("the bytes 2, 0, .. are an element's")
	}
}

func TestP1008EmptyListsAreNil(t *testing.T) {
	p := wire.Proof[msm.Line]{}
	q := wire.Proof[msm.Line]{L: []msm.Line{}, R: make([]msm.Line, 0, 4)}
	a, e := wire.EncodeProof(p)
	b, f := wire.EncodeProof(q)
	if e != api.OK || f != api.OK || !bytes.Equal(a, b) || !bytes.Equal(a, make([]byte, 288)) {
		t.Errorf("%d, %d: %v, %v", e, f, a, b)
	}
	q.R = nil
	if b, f = wire.EncodeProof(q); f != api.OK || !bytes.Equal(a, b) {
		t.Errorf("%d: %v", f, b)
	}
}
