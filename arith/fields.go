package arith

import (
	"veil/api"
	"veil/ipa"
	"veil/msm"
	"veil/scalar"
	"veil/wire"
)

// move: when a field is said.
type move int

const (
	ofWires      move = iota // ahead of y and z
	ofPolynomial             // ahead of x
	ofValues                 // ahead of w
	ofRounds                 // by the inner-product argument
	ofEnd                    // ahead of c
)

// field: one field of a proof: when and under which word it is said, how it is written, and how it is read.
type field[P any] struct {
	move  move
	label string
	write func(x *Proof[P]) api.Bytes32
	read  func(x *Proof[P], from *wire.Reader)
}

// element: a field that is an element.
func element[P msm.Group[P]](m move, label string, at func(x *Proof[P]) *P) field[P] {
	return field[P]{
		move: m, label: label,
		write: func(x *Proof[P]) api.Bytes32 { return (*at(x)).Encode() },
		read:  func(x *Proof[P], from *wire.Reader) { *at(x) = wire.Point[P](from) },
	}
}

// number: a field that is a scalar.
func number[P any](m move, label string, at func(x *Proof[P]) *scalar.Scalar) field[P] {
	return field[P]{
		move: m, label: label,
		write: func(x *Proof[P]) api.Bytes32 { return at(x).Encode() },
		read:  func(x *Proof[P], from *wire.Reader) { *at(x) = from.Scalar() },
	}
}

// fields: all of a proof with so many rounds, in the order of its bytes.
func fields[P msm.Group[P]](rounds int) []field[P] {
	list := []field[P]{
		element(ofWires, "AI", func(x *Proof[P]) *P { return &x.AI }),
		element(ofWires, "AO", func(x *Proof[P]) *P { return &x.AO }),
		element(ofWires, "S", func(x *Proof[P]) *P { return &x.S }),
		element(ofPolynomial, "T1", func(x *Proof[P]) *P { return &x.T1 }),
		element(ofPolynomial, "T3", func(x *Proof[P]) *P { return &x.T3 }),
		element(ofPolynomial, "T4", func(x *Proof[P]) *P { return &x.T4 }),
		element(ofPolynomial, "T5", func(x *Proof[P]) *P { return &x.T5 }),
		element(ofPolynomial, "T6", func(x *Proof[P]) *P { return &x.T6 }),
		number(ofValues, "taux", func(x *Proof[P]) *scalar.Scalar { return &x.TauX }),
		number(ofValues, "mu", func(x *Proof[P]) *scalar.Scalar { return &x.Mu }),
		number(ofValues, "that", func(x *Proof[P]) *scalar.Scalar { return &x.That }),
	}
	for i := range rounds {
		list = append(list,
			element(ofRounds, "L", func(x *Proof[P]) *P { return &x.L[i] }),
			element(ofRounds, "R", func(x *Proof[P]) *P { return &x.R[i] }))
	}
	return append(list,
		number(ofEnd, "a", func(x *Proof[P]) *scalar.Scalar { return &x.Ea }),
		number(ofEnd, "b", func(x *Proof[P]) *scalar.Scalar { return &x.Eb }))
}

// length: of the bytes of a proof with so many rounds.
func length(rounds int) int { return 32 * (13 + 2*rounds) }

// EncodeProof: its bytes.
func EncodeProof[P msm.Group[P]](p Proof[P]) ([]byte, api.Errno) {
	rounds := len(p.L)
	if len(p.R) != rounds || rounds > api.MaxRounds {
		return nil, api.ErrLength
	}
	b := make([]byte, 0, length(rounds))
	for _, f := range fields[P](rounds) {
		next := f.write(&p)
		b = append(b, next[:]...)
	}
	return b, api.OK
}

// DecodeProof: the proof of these bytes.
func DecodeProof[P msm.Group[P]](b []byte) (Proof[P], api.Errno) {
	rounds := 0
	for length(rounds) < len(b) && rounds < api.MaxRounds {
		rounds++
	}
	if len(b) != length(rounds) {
		return Proof[P]{}, api.ErrLength
	}
	p, from := Proof[P]{L: make([]P, rounds), R: make([]P, rounds)}, wire.NewReader(b)
	for _, f := range fields[P](rounds) {
		f.read(&p, from)
	}
	if e := from.End(); e != api.OK {
		return Proof[P]{}, e
	}
	return p, api.OK
}

// proofOf: what is sent of a view and an argument.
func proofOf[P any](w View[P], x ipa.Argument[P]) Proof[P] {
	return Proof[P]{
		AI: w.AI, AO: w.AO, S: w.S,
		T1: w.T1, T3: w.T3, T4: w.T4, T5: w.T5, T6: w.T6,
		TauX: w.TauX, Mu: w.Mu, That: w.That,
		L: x.L, R: x.R, Ea: x.A, Eb: x.B,
	}
}

// viewOf: what a proof tells of a view: neither challenges nor l and r.
func viewOf[P any](x Proof[P]) View[P] {
	return View[P]{
		AI: x.AI, AO: x.AO, S: x.S,
		T1: x.T1, T3: x.T3, T4: x.T4, T5: x.T5, T6: x.T6,
		TauX: x.TauX, Mu: x.Mu, That: x.That,
	}
}

// argumentOf: what a proof tells of the inner-product argument.
func argumentOf[P any](x Proof[P]) ipa.Argument[P] {
	return ipa.Argument[P]{L: x.L, R: x.R, A: x.Ea, B: x.Eb}
}
