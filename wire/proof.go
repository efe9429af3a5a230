package wire

import (
	"veil/api"
	"veil/msm"
	"veil/scalar"
)

// Proof: an aggregated range proof.
type Proof[P any] struct {
	A, S, T1, T2   P
	TauX, Mu, That scalar.Scalar
	L, R           []P
	Ea, Eb         scalar.Scalar
}

// length: of the bytes of a proof with so many rounds.
func length(rounds int) int { return 32 * (9 + 2*rounds) }

// roundsOf: of a proof of so many bytes; false: no proof has so many.
func roundsOf(size int) (int, bool) {
	for k := range api.MaxRounds + 1 {
		if length(k) == size {
			return k, true
		}
	}
	return 0, false
}

// appendAll: b with the 32 bytes of each behind it.
func appendAll[T interface{ Encode() api.Bytes32 }](b []byte, list ...T) []byte {
	for _, x := range list {
		next := x.Encode()
		b = append(b, next[:]...)
	}
	return b
}

// EncodeProof: its bytes.
func EncodeProof[P msm.Group[P]](p Proof[P]) ([]byte, api.Errno) {
	if len(p.L) != len(p.R) || len(p.L) > api.MaxRounds {
		return nil, api.ErrLength
	}
	b := make([]byte, 0, length(len(p.L)))
	b = appendAll(b, p.A, p.S, p.T1, p.T2)
	b = appendAll(b, p.TauX, p.Mu, p.That)
	for i := range p.L {
		b = appendAll(b, p.L[i], p.R[i])
	}
	return appendAll(b, p.Ea, p.Eb), api.OK
}

// DecodeProof: the proof of these bytes.
func DecodeProof[P msm.Group[P]](b []byte) (Proof[P], api.Errno) {
	k, ok := roundsOf(len(b))
	if !ok {
		return Proof[P]{}, api.ErrLength
	}
	r := NewReader(b)
	p := Proof[P]{L: make([]P, k), R: make([]P, k)}
	p.A, p.S, p.T1, p.T2 = Point[P](r), Point[P](r), Point[P](r), Point[P](r)
	p.TauX, p.Mu, p.That = r.Scalar(), r.Scalar(), r.Scalar()
	for i := range k {
		p.L[i], p.R[i] = Point[P](r), Point[P](r)
	}
	p.Ea, p.Eb = r.Scalar(), r.Scalar()
	if e := r.End(); e != api.OK {
		return Proof[P]{}, e
	}
	return p, api.OK
}
