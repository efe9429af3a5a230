package transcript_test

import (
	"slices"
	"testing"

	"veil/api"
	"veil/sample"
	"veil/scalar"
	"veil/transcript"
)

func TestP803Labels(t *testing.T) {
	for _, label := range []string{"", "x", "veil transcript", "\x00", "\xff\xfe", "ä\x80", string(make([]byte, 1000))} {
		is(t, "New", transcript.New(label), newModel(label))
	}
}

// single: one call on a new transcript.
func single(t *testing.T, m move) {
	t.Helper()
	tr, s := transcript.New("single"), newModel("single")
	m.on(tr)
	is(t, "one call", tr, m.behind(s))
}

func TestP803Absorb(t *testing.T) {
	for _, label := range []string{"", "p", "absorb", "\x00\xff\x80"} {
		single(t, move{label: label})
		for _, parts := range [][][]byte{{}, {nil}, {{}}, {nil, nil}, {{1}}, {{1}, {2}}, {{1, 2}}, {{}, {1, 2}, {}}, {make([]byte, 5000)}, make([][]byte, 300)} {
			single(t, move{label: label, parts: parts})
		}
	}
}

func TestP803Draw(t *testing.T) {
	tr, s := transcript.New("draws"), newModel("draws")
	for _, label := range []string{"c", "c", "", "draw", "drawn", "\x00\xff\x80", string(make([]byte, 1000))} {
		var c scalar.Scalar
		s, c = s.draw(label)
		draws(t, tr, label, c, api.OK)
		is(t, "Draw", tr, s)
	}
}

func TestP803Fork(t *testing.T) {
	for _, label := range []string{"", "left", "fork", "\x00\xff\x80", string(make([]byte, 1000))} {
		tr, s := transcript.New("forks"), newModel("forks")
		tr.Absorb("p", []byte("1"))
		s = s.absorb("p", []byte("1"))
		fork := tr.Fork(label)
		is(t, "Fork, of the fork", fork, s.fork(label))
		is(t, "Fork, of what was forked", tr, s)
		fork.Absorb("q")
		fork.Draw("c")
		is(t, "what was said to the fork", tr, s)
		was := fork.State()
		tr.Absorb("r")
		tr.Draw("c")
		is(t, "what was said to the fork", fork, model(was))
		is(t, "a fork of the fork", fork.Fork("x"), model(was).fork("x"))
	}
}

// tracked: a transcript and what its state must be.
type tracked struct {
	tr *transcript.T
	s  model
}

// step: one call on one of them; a Fork or a New adds another one.
func step(t *testing.T, m *sample.Maker, all []tracked) []tracked {
	one := &all[m.Next()%uint64(len(all))]
	label := someText(m)
	switch m.Next() % 8 {
	case 0:
		return append(all, tracked{one.tr.Fork(label), one.s.fork(label)})
	case 1:
		return append(all, tracked{transcript.New(label), newModel(label)})
	case 2, 3, 4:
		var c scalar.Scalar
		one.s, c = one.s.draw(label)
		draws(t, one.tr, label, c, api.OK)
	default:
		parts := someParts(m)
		one.tr.Absorb(label, parts...)
		one.s = one.s.absorb(label, parts...)
	}
	return all
}

func TestP804AnyOrderOverAnyTranscripts(t *testing.T) {
	m := sample.Maker(804)
	for range 20 {
		all := []tracked{{transcript.New(""), newModel("")}}
		for range 100 {
			all = step(t, &m, all)
			for _, one := range all {
				is(t, "any calls", one.tr, one.s)
			}
		}
	}
}

// story: a label, and what is said behind it.
type story struct {
	label string
	moves []move
}

// told: the transcript of a story, its state asked on the way or not.
func (s story) told(ask bool) *transcript.T {
	tr := transcript.New(s.label)
	for _, m := range s.moves {
		m.on(tr)
		if ask {
			tr.State()
			tr.Fork("aside").Draw("aside")
		}
	}
	return tr
}

// like: stories unlike s and each other by little.
func (s story) like() []story {
	list := []story{{s.label + "\x00", s.moves}, {"", s.moves}, {s.label, s.moves[1:]}, {s.label, append(slices.Clone(s.moves), move{})}}
	for i, m := range s.moves {
		for _, n := range m.like() {
			moves := slices.Clone(s.moves)
			moves[i] = n
			list = append(list, story{s.label, moves})
		}
		if i > 0 {
			moves := slices.Clone(s.moves)
			moves[i-1], moves[i] = moves[i], moves[i-1]
			list = append(list, story{s.label, moves})
		}
	}
	return list
}

// like: calls unlike m by little.
func (m move) like() []move {
	if m.draw {
		return []move{{draw: true, label: m.label + "\x00"}, {label: m.label}, {label: m.label, parts: [][]byte{nil}}}
	}
	list := []move{{draw: true, label: m.label}, {label: m.label + "\x00", parts: m.parts}, {label: m.label, parts: append(slices.Clone(m.parts), nil)}}
	for i, p := range m.parts {
		parts := slices.Clone(m.parts)
		parts[i] = append(slices.Clone(p), 0)
		without := slices.Delete(slices.Clone(m.parts), i, i+1)
		list = append(list, move{label: m.label, parts: parts}, move{label: m.label, parts: without})
	}
	return list
}

// tale: a story of all kinds of calls.
var tale = story{"tale", []move{
	{label: "a", parts: texts("one", "", "two")},
	{draw: true, label: "c"},
	{label: "b"},
	{label: "b", parts: texts("")},
	{draw: true, label: "d"},
	{label: "", parts: texts("three")},
}}

func TestP804TheSameStory(t *testing.T) {
	a, b := tale.told(false), tale.told(true)
	is(t, "the same story", a, model(b.State()))
	c, e := a.Draw("x")
	draws(t, b, "x", c, e)
	is(t, "the same Draw", a, model(b.State()))
}

func TestP804OtherStories(t *testing.T) {
	states, challenges := map[api.Bytes64]story{}, map[scalar.Scalar]story{}
	for _, s := range append(tale.like(), tale) {
		tr := s.told(false)
		if other, twice := states[tr.State()]; twice {
			t.Fatalf("the same state behind %v and %v", s, other)
		}
		states[tr.State()] = s
		c, e := tr.Draw("x")
		if other, twice := challenges[c]; twice || e != api.OK {
			t.Fatalf("the same challenge, or %d, behind %v and %v", e, s, other)
		}
		challenges[c] = s
	}
}

func TestP804LaterCallsHangOnEarlierOnes(t *testing.T) {
	a, b := transcript.New("x"), transcript.New("x")
	a.Draw("c")
	b.Draw("d")
	for range 3 {
		c, _ := a.Draw("e")
		d, _ := b.Draw("e")
		if c == d || a.State() == b.State() {
			t.Fatal("what was drawn earlier is forgotten")
		}
	}
}

func TestP804ForksByTheirLabels(t *testing.T) {
	tr := transcript.New("x")
	seen := map[api.Bytes64]string{tr.State(): "the transcript itself"}
	for _, label := range []string{"", "a", "b", "ab", "a\x00"} {
		s := tr.Fork(label).State()
		if other, twice := seen[s]; twice {
			t.Fatalf("the forks %q and %q have one state", label, other)
		}
		seen[s] = label
		if tr.Fork(label).State() != s {
			t.Fatalf("two forks %q have two states", label)
		}
	}
}

func TestP806TranscriptIsAnOracle(t *testing.T) {
	tr, s := transcript.New("oracle"), newModel("oracle")
	var o transcript.Oracle = tr
	o.Absorb("a", []byte("b"), nil)
	s, c := s.absorb("a", []byte("b"), nil).draw("c")
	draws(t, o, "c", c, api.OK)
	is(t, "calls of the Oracle", tr, s)
}
