package sigma

import (
	"veil/api"
	"veil/msm"
	"veil/scalar"
	"veil/transcript"
)

// subject: what a proof is about: a claim (single), a signature's (signature), one of two (pair).
type subject[P msm.Group[P]] interface {
	// part: the subject of that number, from 1 on, among those that this one is made of; nil, if there is none.
	part(number int) subject[P]
}

// single: a claim.
type single[P msm.Group[P]] struct {
	Claim[P]
}

func (s single[P]) part(number int) subject[P] {
	if number == 1 {
		return s
	}
	return nil
}

// signature: the claim to know a key, behind a message.
type signature[P msm.Group[P]] struct {
	key     single[P]
	message []byte
}

func (s signature[P]) part(number int) subject[P] { return s.key.part(number) }

// pair: two claims, one of which is known.
type pair[P msm.Group[P]] struct {
	a, b single[P]
}

func (s pair[P]) part(number int) subject[P] {
	switch number {
	case 1:
		return s.a
	case 2:
		return s.b
	}
	return nil
}

// claimOf: the claim of that number of a subject; false, and one that does not stand, if there is none.
func claimOf[P msm.Group[P]](about subject[P], number int) (Claim[P], bool) {
	if one, ok := about.part(number).(single[P]); ok {
		return one.Claim, true
	}
	return Claim[P]{}, false
}

// say: what a proof is about, to an Oracle.
func say[P msm.Group[P]](o transcript.Oracle, about subject[P]) {
	switch s := about.(type) {
	case single[P]:
		o.Absorb("claim", parts(s.Claim)...)
	case signature[P]:
		o.Absorb("message", s.message)
		say[P](o, s.key)
	case pair[P]:
		say[P](o, s.a)
		say[P](o, s.b)
	}
}

// parts: a claim that stands, as it is said.
func parts[P msm.Group[P]](c Claim[P]) [][]byte {
	list := [][]byte{le64(len(c.Rows)), le64(len(c.Rows[0]))}
	for _, row := range c.Rows {
		list = append(list, encodings(row)...)
	}
	return append(list, encodings(c.Images)...)
}

// encodings: of all elements.
func encodings[P msm.Group[P]](elements []P) [][]byte {
	list := make([][]byte, len(elements))
	for i, p := range elements {
		b := p.Encode()
		list[i] = b[:]
	}
	return list
}

// le64: a number as 8 bytes, the lowest first.
func le64(n int) []byte {
	b := make([]byte, 8)
	for place := range b {
		b[place] = byte(n >> (8 * place))
	}
	return b
}

// ask: the subject and the first messages are said; the challenge that the Oracle answers to them.
func ask[P msm.Group[P]](o transcript.Oracle, about subject[P], firsts ...func() []P) (scalar.Scalar, api.Errno) {
	say(o, about)
	for _, first := range firsts {
		o.Absorb("first", encodings(first())...)
	}
	ch, e := o.Draw("c")
	if e != api.OK {
		return scalar.Scalar{}, e
	}
	// An Oracle of the caller's own may answer 0 with OK, and any limbs.
	if ch.IsZero() {
		return scalar.Scalar{}, api.ErrZero
	}
	return ch.Least(), api.OK
}
