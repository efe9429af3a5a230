package transcript_test

import (
	"bytes"
	"math/big"
	"slices"
	"testing"

	"veil/api"
	"veil/sample"
	"veil/scalar"
	"veil/transcript"
)

// heard: has a Script heard just these calls?
func heard(t *testing.T, s *transcript.Script, want []move) {
	t.Helper()
	same := func(a transcript.Said, b move) bool {
		return a.Draw == b.draw && a.Label == b.label && slices.EqualFunc(a.Parts, b.parts, bytes.Equal)
	}
	if got := s.Heard(); !slices.EqualFunc(got, want, same) {
		t.Fatalf("Heard() = %v, want %v", got, want)
	}
}

func TestP805LeastLimbs(t *testing.T) {
	for _, n := range []int64{1, 2, 7, 1 << 40, -1, -2} {
		want := sample.Scalar(big.NewInt(n))
		for _, limbs := range sample.Scalars(big.NewInt(n)) {
			draws(t, transcript.Given(limbs), "c", want, api.OK)
		}
	}
	top := scalar.Scalar{1<<64 - 1, 1<<64 - 1, 1<<64 - 1, 1<<64 - 1}
	draws(t, transcript.Given(top), "c", top.Least(), api.OK)
}

func TestP805Zeros(t *testing.T) {
	zeros := sample.Scalars(new(big.Int))
	if len(zeros) < 10 {
		t.Fatalf("%d kinds of limbs for 0", len(zeros))
	}
	for _, zero := range zeros {
		s := transcript.Given(scalar.Int(3), zero, zero, scalar.Int(5))
		draws(t, s, "c", scalar.Int(3), api.OK)
		draws(t, s, "c", scalar.Scalar{}, api.ErrZero)
		draws(t, s, "c", scalar.Scalar{}, api.ErrZero)
		draws(t, s, "c", scalar.Int(5), api.OK)
		draws(t, s, "c", scalar.Scalar{}, api.ErrShort)
	}
}

func TestP805NoneLeft(t *testing.T) {
	for _, s := range []*transcript.Script{transcript.Given(), transcript.Given([]scalar.Scalar{}...), transcript.Given(nil...)} {
		var want []move
		for range 5 {
			draws(t, s, "more", scalar.Scalar{}, api.ErrShort)
			s.Absorb("and")
			want = append(want, move{draw: true, label: "more"}, move{label: "and"})
			heard(t, s, want)
		}
	}
}

func TestP805LabelsDoNotMatter(t *testing.T) {
	s := transcript.Given(scalar.Int(1), scalar.Int(2), scalar.Int(3), scalar.Int(4))
	for i, label := range []string{"", "c", "c", "\x00\xff"} {
		draws(t, s, label, scalar.Int(uint64(i)+1), api.OK)
		s.Absorb(label, []byte(label))
	}
}

func TestP805Heard(t *testing.T) {
	m := sample.Maker(805)
	for range 50 {
		var list []scalar.Scalar
		for range m.Next() % 20 {
			list = append(list, scalar.Int(m.Next()%3))
		}
		s := transcript.Given(list...)
		var want []move
		heard(t, s, want)
		for range 40 {
			next := someMove(&m)
			next.on(s)
			want = append(want, next)
			heard(t, s, want)
		}
	}
}

func TestP805ManyChallenges(t *testing.T) {
	var list []scalar.Scalar
	for i := range 5000 {
		list = append(list, scalar.Int(uint64(i%7)))
	}
	s := transcript.Given(list...)
	for _, c := range list {
		if c == (scalar.Scalar{}) {
			draws(t, s, "c", c, api.ErrZero)
		} else {
			draws(t, s, "c", c, api.OK)
		}
	}
	draws(t, s, "c", scalar.Scalar{}, api.ErrShort)
}

func TestP805ScriptsAreApart(t *testing.T) {
	a, b := transcript.Given(scalar.Int(1), scalar.Int(2)), transcript.Given(scalar.Int(1), scalar.Int(2))
	draws(t, a, "c", scalar.Int(1), api.OK)
	a.Absorb("a")
	heard(t, b, nil)
	draws(t, b, "d", scalar.Int(1), api.OK)
	draws(t, a, "c", scalar.Int(2), api.OK)
	heard(t, a, []move{{draw: true, label: "c"}, {label: "a"}, {draw: true, label: "c"}})
	heard(t, b, []move{{draw: true, label: "d"}})
}

func TestP806ScriptIsAnOracle(t *testing.T) {
	s := transcript.Given(scalar.Int(4))
	var o transcript.Oracle = s
	o.Absorb("a", []byte("b"), nil)
	draws(t, o, "c", scalar.Int(4), api.OK)
	draws(t, o, "d", scalar.Scalar{}, api.ErrShort)
	heard(t, s, []move{{label: "a", parts: [][]byte{[]byte("b"), nil}}, {draw: true, label: "c"}, {draw: true, label: "d"}})
}
