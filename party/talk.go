package party

import (
	"veil/api"
	"veil/scalar"
	"veil/transcript"
)

// talk: what is said to an Oracle and asked of it in one call. Its first error stays: behind it nothing is asked, and every challenge is 0.
type talk struct {
	o transcript.Oracle
	e api.Errno
}

// ask: a challenge.
func (t *talk) ask(label string) scalar.Scalar {
	if t.e != api.OK {
		return scalar.Scalar{}
	}
	c, e := t.o.Draw(label)
	if e != api.OK {
		t.e = e
		return scalar.Scalar{}
	}
	// An Oracle of the caller's own may answer 0 with OK, and any limbs.
	if c.IsZero() {
		t.e = api.ErrZero
	}
	return c.Least()
}

// say: elements or scalars, a part each.
func say[T interface{ Encode() api.Bytes32 }](t *talk, label string, list ...T) {
	parts := make([][]byte, len(list))
	for i, x := range list {
		b := x.Encode()
		parts[i] = b[:]
	}
	t.o.Absorb(label, parts...)
}

// le64: a number as 8 bytes, the lowest first.
func le64(n int) []byte {
	b := make([]byte, 8)
	for place := range b {
		b[place] = byte(n >> (8 * place))
	}
	return b
}
