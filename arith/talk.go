package arith

import (
	"veil/api"
	"veil/circuit"
	"veil/ipa"
	"veil/msm"
	"veil/scalar"
	"veil/transcript"
)

// talk: what is said to an Oracle and asked of it. Its first error stays: behind it nothing is said, and every challenge is 0.
type talk struct {
	o transcript.Oracle
	e api.Errno
}

// talkAbout: the system and the commitments that a proof is about are said.
func talkAbout[P msm.Group[P]](o transcript.Oracle, s *circuit.System, v []P) *talk {
	o.Absorb("circuit", s.Encode())
	parts := make([][]byte, len(v))
	for j, c := range v {
		b := c.Encode()
		parts[j] = b[:]
	}
	o.Absorb("V", parts...)
	return &talk{o: o}
}

// say: the fields of a proof that belong to a move.
func say[P msm.Group[P]](t *talk, m move, x Proof[P]) {
	if t.e != api.OK {
		return
	}
	for _, f := range fields[P](len(x.L)) {
		if f.move == m {
			b := f.write(&x)
			t.o.Absorb(f.label, b[:])
		}
	}
}

// ask: a challenge.
func (t *talk) ask(label string) scalar.Scalar {
	if t.e != api.OK {
		return scalar.Scalar{}
	}
	c, e := t.o.Draw(label)
	// An Oracle of the caller's own may answer 0 with OK, and any limbs.
	if e == api.OK && c.IsZero() {
		e = api.ErrZero
	}
	if e != api.OK {
		t.e = e
		return scalar.Scalar{}
	}
	return c.Least()
}

// askRounds: the challenges of the inner-product argument, to which its L and R are said.
func askRounds[P msm.Group[P]](t *talk, size int, x ipa.Argument[P]) []scalar.Scalar {
	if t.e != api.OK {
		return nil
	}
	us, e := ipa.Challenges(size, x, t.o)
	t.e = e
	return us
}
