package transcript_test

// P801, and the document's rules: nil and empty, what is handed in is left alone and not kept, what is handed out is new.

import (
	"bytes"
	"slices"
	"testing"

	"veil/api"
	"veil/sample"
	"veil/scalar"
	"veil/transcript"
)

func TestP801NoTranscript(t *testing.T) {
	for _, tr := range []*transcript.T{nil, {}, new(transcript.T)} {
		for range 2 {
			tr.Absorb("a", []byte("b"), nil)
			draws(t, tr, "c", scalar.Scalar{}, api.ErrArg)
			if tr.Fork("d") != nil || tr.State() != (api.Bytes64{}) {
				t.Error("a transcript that no call made forks or has a state")
			}
		}
	}
	var none *transcript.T
	draws(t, transcript.Oracle(none), "c", scalar.Scalar{}, api.ErrArg)
}

func TestP801NoScript(t *testing.T) {
	for _, s := range []*transcript.Script{nil, {}, new(transcript.Script)} {
		for range 2 {
			s.Absorb("a", []byte("b"), nil)
			draws(t, s, "c", scalar.Scalar{}, api.ErrArg)
			heard(t, s, nil)
		}
	}
	var none *transcript.Script
	draws(t, transcript.Oracle(none), "c", scalar.Scalar{}, api.ErrArg)
}

func TestP801NilAndEmpty(t *testing.T) {
	pairs := [][2][][]byte{{nil, {}}, {{nil}, {{}}}, {{nil, {1}, nil}, {{}, {1}, {}}}, {{nil}, {make([]byte, 0, 9)}}}
	for _, p := range pairs {
		if !bytes.Equal(transcript.Frame("x", p[0]...), transcript.Frame("x", p[1]...)) {
			t.Errorf("Frame of %v and %v", p[0], p[1])
		}
		a, b := transcript.New("x"), transcript.New("x")
		a.Absorb("y", p[0]...)
		b.Absorb("y", p[1]...)
		is(t, "nil and empty", a, model(b.State()))
		s := transcript.Given()
		s.Absorb("y", p[0]...)
		s.Absorb("y", p[1]...)
		heard(t, s, []move{{label: "y", parts: p[0]}, {label: "y", parts: p[0]}})
	}
}

// lent: parts in a room with others behind them, each in a room of its own with more bytes behind it.
type lent struct {
	room  [][]byte
	rooms [][]byte
}

func lend(m *sample.Maker) lent {
	h := lent{}
	for i := range 6 {
		room := m.Bytes(40)
		h.rooms = append(h.rooms, room)
		h.room = append(h.room, room[:i*5])
	}
	return h
}

func (h lent) parts() [][]byte { return h.room[:4] }

// copied: the same in another place.
func (h lent) copied() lent {
	c := lent{room: slices.Clone(h.room)}
	for _, room := range h.rooms {
		c.rooms = append(c.rooms, slices.Clone(room))
	}
	return c
}

// same: is nothing changed, and do the parts lie where they lay?
func (h lent) same(was lent) bool {
	return slices.EqualFunc(h.rooms, was.rooms, bytes.Equal) && slices.EqualFunc(h.room, was.room, func(a, b []byte) bool {
		return len(a) == len(b) && cap(a) == cap(b) && &a[:1][0] == &b[:1][0]
	})
}

// spoil: other bytes everywhere.
func (h lent) spoil() {
	for i, room := range h.rooms {
		for j := range room {
			room[j] ^= 0xff
		}
		h.room[i] = nil
	}
}

func TestP801HandedInIsLeft(t *testing.T) {
	m := sample.Maker(801)
	h := lend(&m)
	was := h.copied()
	tr, s := transcript.New("x"), transcript.Given(scalar.Int(1))
	transcript.Frame("x", h.parts()...)
	tr.Absorb("x", h.parts()...)
	tr.Draw("x")
	tr.Fork("x").Absorb("x", h.parts()...)
	s.Absorb("x", h.parts()...)
	for _, said := range s.Heard() {
		for _, p := range said.Parts {
			clear(p[:cap(p)])
		}
	}
	if !h.same(was) {
		t.Error("the parts or the room behind them have changed")
	}
}

func TestP801PartsAreNotKept(t *testing.T) {
	m := sample.Maker(8010)
	h := lend(&m)
	var parts [][]byte
	for _, p := range h.parts() {
		parts = append(parts, slices.Clone(p))
	}
	tr, s := transcript.New("x"), transcript.Given()
	frame := transcript.Frame("x", h.parts()...)
	tr.Absorb("x", h.parts()...)
	s.Absorb("x", h.parts()...)
	h.spoil()
	if !bytes.Equal(frame, framed("x", parts...)) {
		t.Error("Frame keeps its parts")
	}
	is(t, "Absorb", tr, newModel("x").absorb("x", parts...))
	heard(t, s, []move{{label: "x", parts: parts}})
}

func TestP801GivenIsLeftAndNotKept(t *testing.T) {
	room := []scalar.Scalar{sample.Words(sample.L()), {1, 2, 3, 1<<64 - 1}, {7}, {8}}
	was := slices.Clone(room)
	s := transcript.Given(room[:3]...)
	draws(t, s, "c", scalar.Scalar{}, api.ErrZero)
	if !slices.Equal(room, was) {
		t.Error("the challenges or the room behind them have changed")
	}
	clear(room)
	draws(t, s, "c", was[1].Least(), api.OK)
	draws(t, s, "c", was[2], api.OK)
	draws(t, s, "c", scalar.Scalar{}, api.ErrShort)
}

func TestP801FramesAreNewMemory(t *testing.T) {
	a, b := transcript.Frame("x", []byte("y")), transcript.Frame("x", []byte("y"))
	clear(a[:cap(a)])
	if !bytes.Equal(b, framed("x", []byte("y"))) {
		t.Error("two frames share memory")
	}
}

// written: writes into all that a list of calls holds, the room behind it too.
func written(list []transcript.Said) {
	for _, said := range list[:cap(list)] {
		for _, p := range said.Parts[:cap(said.Parts)] {
			clear(p[:cap(p)])
		}
		clear(said.Parts[:cap(said.Parts)])
	}
	clear(list[:cap(list)])
}

func TestP801HeardIsNewMemory(t *testing.T) {
	m := sample.Maker(80100)
	s := transcript.Given(scalar.Int(1))
	var want []move
	for range 10 {
		next := someMove(&m)
		next.on(s)
		want = append(want, next)
		written(s.Heard())
		heard(t, s, want)
	}
	earlier := s.Heard()
	s.Absorb("later", []byte("on"))
	if len(earlier) != len(want) || len(s.Heard()) != len(want)+1 {
		t.Error("a list that was handed out grows")
	}
}

func TestP801PartsOfOneAnswerAreApart(t *testing.T) {
	p := []byte("part")
	s := transcript.Given()
	s.Absorb("a", p, p, p[:2])
	s.Absorb("a", p)
	var parts [][]byte
	for _, said := range s.Heard() {
		parts = append(parts, said.Parts...)
	}
	for i, part := range parts {
		whole := part[:cap(part)]
		for j := range whole {
			whole[j] = byte(i)
		}
	}
	for i, part := range parts {
		if !bytes.Equal(part, bytes.Repeat([]byte{byte(i)}, len(part))) {
			t.Errorf("part %d = %v behind writes into others", i, part)
		}
	}
	heard(t, s, []move{{label: "a", parts: texts("part", "part", "pa")}, {label: "a", parts: texts("part")}})
}

func TestP801StateIsACopy(t *testing.T) {
	tr := transcript.New("x")
	s := tr.State()
	clear(s[:])
	is(t, "writing into its state", tr, newModel("x"))
}
