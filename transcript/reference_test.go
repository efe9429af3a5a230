package transcript_test

// What the package's answers are held against: frames read back by hand, and states by the library's SHA-512 and math/big.

import (
	"crypto/sha512"
	"encoding/binary"
	"slices"
	"testing"

	"veil/api"
	"veil/sample"
	"veil/scalar"
	"veil/transcript"
)

// le64: a length as bytes.
func le64(n int) []byte { return binary.LittleEndian.AppendUint64(nil, uint64(n)) }

// framed: the frame, by the chapter's words.
func framed(label string, parts ...[]byte) []byte {
	pieces := [][]byte{le64(len(label)), []byte(label), le64(len(parts))}
	for _, p := range parts {
		pieces = append(pieces, le64(len(p)), p)
	}
	return slices.Concat(pieces...)
}

// texts: parts of texts.
func texts(list ...string) [][]byte {
	var parts [][]byte
	for _, s := range list {
		parts = append(parts, []byte(s))
	}
	return parts
}

// model: a transcript's state, by the chapter's words.
type model api.Bytes64

func newModel(label string) model {
	return sha512.Sum512(framed("veil transcript", []byte(label)))
}

func (s model) next(word string, more ...[]byte) model {
	return sha512.Sum512(framed(word, slices.Concat([][]byte{s[:]}, more)...))
}

func (s model) absorb(label string, parts ...[]byte) model {
	return s.next("absorb", framed(label, parts...))
}

// draw: the state behind a Draw, and the challenge.
func (s model) draw(label string) (model, scalar.Scalar) {
	d := s.next("draw", []byte(label))
	return s.next("drawn", d[:]), sample.Scalar(sample.Number(d[:]))
}

func (s model) fork(label string) model { return s.next("fork", []byte(label)) }

// is: has a transcript this state?
func is(t *testing.T, what string, tr *transcript.T, want model) {
	t.Helper()
	if got := tr.State(); got != api.Bytes64(want) {
		t.Fatalf("the state behind %s = %x, want %x", what, got, want)
	}
}

// draws: does an Oracle answer this?
func draws(t *testing.T, o transcript.Oracle, label string, want scalar.Scalar, e api.Errno) {
	t.Helper()
	if c, f := o.Draw(label); c != want || f != e {
		t.Fatalf("Draw(%q) = %v, %d, want %v, %d", label, c, f, want, e)
	}
}

// move: one call on an Oracle.
type move struct {
	draw  bool
	label string
	parts [][]byte
}

// on: the call is made, a Draw's answer left.
func (m move) on(o transcript.Oracle) {
	if m.draw {
		o.Draw(m.label)
	} else {
		o.Absorb(m.label, m.parts...)
	}
}

// behind: the model's state behind the call.
func (m move) behind(s model) model {
	if m.draw {
		s, _ = s.draw(m.label)
		return s
	}
	return s.absorb(m.label, m.parts...)
}

// someText: any bytes, often few, sometimes more than a block of the hash.
func someText(m *sample.Maker) string {
	switch m.Next() % 4 {
	case 0:
		return ""
	case 1:
		return string(m.Bytes(int(m.Next() % 300)))
	}
	return string(m.Bytes(int(m.Next() % 4)))
}

// someParts: none or some, empty ones among them.
func someParts(m *sample.Maker) [][]byte {
	var parts [][]byte
	for range m.Next() % 4 {
		parts = append(parts, []byte(someText(m)))
	}
	return parts
}

// someMove: any call.
func someMove(m *sample.Maker) move {
	if m.Next()%3 == 0 {
		return move{draw: true, label: someText(m)}
	}
	return move{label: someText(m), parts: someParts(m)}
}
