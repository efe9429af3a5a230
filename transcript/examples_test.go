package transcript_test

import (
	"bytes"
	"math/big"
	"testing"

	"veil/api"
	"veil/sample"
	"veil/scalar"
	"veil/transcript"
)

func TestExample1Frames(t *testing.T) {
	for _, c := range []struct {
		label string
		parts [][]byte
		want  []byte
	}{
		{"ab", texts("c"), []byte{2, 0, 0, 0, 0, 0, 0, 0, 0x61, 0x62, 1, 0, 0, 0, 0, 0, 0, 0, 1, 0, 0, 0, 0, 0, 0, 0, 0x63}},
		{"", nil, make([]byte, 16)},
		{"", texts(""), []byte{8: 1, 23: 0}},
	} {
		if got := transcript.Frame(c.label, c.parts...); !bytes.Equal(got, c.want) {
			t.Errorf("Frame(%q, %q) = %x, want %x", c.label, c.parts, got, c.want)
		}
	}
}

func TestExample2UnlikeFrames(t *testing.T) {
	a, b, c := transcript.Frame("a", texts("bc")...), transcript.Frame("a", texts("b", "c")...), transcript.Frame("ab", texts("c")...)
	if bytes.Equal(a, b) || bytes.Equal(a, c) || bytes.Equal(b, c) {
		t.Errorf("%x, %x, %x", a, b, c)
	}
}

func TestExample3TheSameChallenge(t *testing.T) {
	one, two, three := transcript.New("x"), transcript.New("x"), transcript.New("x")
	for _, tr := range []*transcript.T{one, two, three} {
		tr.Absorb("p", []byte("1"))
	}
	is(t, "Absorb", one, model(two.State()))
	c, e := one.Draw("c")
	draws(t, two, "c", c, e)
	is(t, "Draw", one, model(two.State()))
	if d, _ := three.Draw("d"); c == d || e != api.OK || one.State() == three.State() {
		t.Error("under another label: the same challenge or the same state")
	}
}

func TestExample4Forks(t *testing.T) {
	tr := transcript.New("x")
	was := tr.State()
	left, right := tr.Fork("left"), tr.Fork("right")
	if left.State() == right.State() || left.State() == was || tr.State() != was {
		t.Error("two forks: one state, or that of what was forked")
	}
}

func TestExample5Script(t *testing.T) {
	s := transcript.Given(scalar.Int(3), scalar.Int(0), scalar.Int(5))
	draws(t, s, "c", scalar.Int(3), api.OK)
	draws(t, s, "c", scalar.Scalar{}, api.ErrZero)
	s.Absorb("a", []byte("x"))
	draws(t, s, "c", scalar.Int(5), api.OK)
	draws(t, s, "c", scalar.Scalar{}, api.ErrShort)
	draw := move{draw: true, label: "c"}
	heard(t, s, []move{draw, draw, {label: "a", parts: texts("x")}, draw, draw})
}

func TestExample6OtherLimbs(t *testing.T) {
	l := sample.L()
	draws(t, transcript.Given(sample.Words(l)), "c", scalar.Scalar{}, api.ErrZero)
	draws(t, transcript.Given(sample.Words(l.Add(l, big.NewInt(7)))), "c", scalar.Int(7), api.OK)
}
