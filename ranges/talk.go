package ranges

import (
	"veil/api"
	"veil/ipa"
	"veil/msm"
	"veil/scalar"
	"veil/transcript"
)

// talk: what is said to an Oracle and asked of it. Its first error stays: behind it nothing is said, and every challenge is 0.
type talk struct {
	o transcript.Oracle
	e api.Errno
}

// ask: a challenge.
func (t *talk) ask(label string) scalar.Scalar {
	if t.e != api.OK {
		return scalar.Scalar{}
	}
	c, e := t.o.Draw(label)
	if failed(e) {
		t.e = e
		return scalar.Scalar{}
	}
	// An Oracle of the caller's own may answer 0 with OK, and any limbs.
	if c.IsZero() {
		t.e = api.ErrZero
	}
	return c.Least()
}

// encoder: what has 32 bytes: an element or a scalar.
type encoder interface{ Encode() api.Bytes32 }

// say: elements or scalars, a part each.
func say[T encoder](t *talk, label string, list ...T) {
	if t.e != api.OK {
		return
	}
	parts := make([][]byte, len(list))
	for i, x := range list {
		b := x.Encode()
		parts[i] = b[:]
	}
	t.o.Absorb(label, parts...)
}

// begin: what a proof is about.
func begin[P msm.Group[P]](o transcript.Oracle, p api.Params, v []P) *talk {
	t := &talk{o: o}
	o.Absorb("range", le64(p.Bits), le64(p.Count))
	say(t, "V", v...)
	return t
}

// sayBits: A and S of a view; y and z.
func sayBits[P msm.Group[P]](t *talk, w View[P]) (y, z scalar.Scalar) {
	say(t, "A", w.A)
	say(t, "S", w.S)
	y = t.ask("y")
	z = t.ask("z")
	return y, z
}

// sayPolynomial: T1 and T2 of a view; x.
func sayPolynomial[P msm.Group[P]](t *talk, w View[P]) scalar.Scalar {
	say(t, "T1", w.T1)
	say(t, "T2", w.T2)
	return t.ask("x")
}

// sayValues: taux, mu and that of a view; w.
func sayValues[P any](t *talk, w View[P]) scalar.Scalar {
	say(t, "taux", w.TauX)
	say(t, "mu", w.Mu)
	say(t, "that", w.That)
	return t.ask("w")
}

// sayEnd: the last a and b; c.
func sayEnd(t *talk, a, b scalar.Scalar) scalar.Scalar {
	say(t, "a", a)
	say(t, "b", b)
	return t.ask("c")
}

// sayRounds: an argument's L and R, round by round; the challenges.
func sayRounds[P msm.Group[P]](t *talk, size int, x ipa.Argument[P]) []scalar.Scalar {
	if t.e != api.OK {
		return nil
	}
	us, e := ipa.Challenges(size, x, t.o)
	t.e = e
	return us
}

// le64: a number as 8 bytes, the lowest first.
func le64(n int) []byte {
	b := make([]byte, 8)
	for place := range b {
		b[place] = byte(n >> (8 * place))
	}
	return b
}
