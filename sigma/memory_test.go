package sigma_test

// P1101, and the document's rules: what is handed in is left alone and not kept, what is handed out is new; types that are no group.

import (
	"slices"
	"testing"

	"veil/api"
	"veil/gens"
	"veil/msm"
	"veil/sample"
	"veil/scalar"
	"veil/sigma"
	"veil/transcript"
)

// room: a claim over Free, lists and a first message, all with others behind them.
type room struct {
	rows     [][]msm.Free
	images   []msm.Free
	first    []msm.Free
	elements [][]scalar.Scalar // all their scalars, with the room behind them
	lists    [5][]scalar.Scalar
	message  []byte
}

func (r *room) element(m *sample.Maker, ks ...scalar.Scalar) msm.Free {
	whole := append(slices.Clone(ks), scalar.Int(m.Next()), scalar.Int(m.Next()))
	r.elements = append(r.elements, whole)
	return msm.Free{K: whole[:len(ks)]}
}

// newRoom: a claim of two rows, three wide, in which the first list holds.
func newRoom() *room {
	m := sample.Maker(1101)
	r := &room{message: m.Bytes(50)}
	for i := range r.lists {
		for range 5 {
			r.lists[i] = append(r.lists[i], sample.Words(sample.Number(m.Bytes(32))))
		}
	}
	for range 4 {
		var row []msm.Free
		for range 5 {
			row = append(row, r.element(&m, scalar.Int(m.Next()), scalar.Int(m.Next())))
		}
		image := msm.Free{}
		for j := range 3 {
			image = image.Add(row[j].Times(r.lists[0][j]))
		}
		r.rows = append(r.rows, row)
		r.images = append(r.images, r.element(&m, image.K...))
		r.first = append(r.first, r.element(&m, scalar.Int(m.Next())))
	}
	return r
}

func (r *room) claim() sigma.Claim[msm.Free] {
	rows := slices.Clone(r.rows)
	for i := range rows {
		rows[i] = r.rows[i][:3]
	}
	return sigma.Claim[msm.Free]{Rows: rows[:2], Images: r.images[:2]}
}

func (r *room) list(i int) []scalar.Scalar { return r.lists[i][:3] }

// same: do two rooms hold the same, in all places?
func (r *room) same(s *room) bool {
	frees := func(a, b []msm.Free) bool {
		return slices.EqualFunc(a, b, func(a, b msm.Free) bool { return slices.Equal(a.K, b.K) })
	}
	return slices.EqualFunc(r.rows, s.rows, frees) && frees(r.images, s.images) && frees(r.first, s.first) &&
		slices.EqualFunc(r.elements, s.elements, slices.Equal[[]scalar.Scalar]) &&
		slices.EqualFunc(r.lists[:], s.lists[:], slices.Equal[[]scalar.Scalar]) &&
		slices.Equal(r.message, s.message)
}

// spoil: other things everywhere.
func (r *room) spoil() {
	for _, list := range append(slices.Clone(r.elements), r.lists[:]...) {
		for i := range list {
			list[i] = scalar.Int(999)
		}
	}
	for _, row := range r.rows {
		clear(row)
	}
	clear(r.rows)
	clear(r.images)
	clear(r.first)
	clear(r.message)
}

// answers: all that the calls hand out, of this room.
type answers struct {
	elements [][]msm.Free
	scalars  [][]scalar.Scalar
}

func (r *room) answers(t *testing.T) answers {
	t.Helper()
	c, a := r.claim(), answers{}
	keep := func(what string, e api.Errno) {
		t.Helper()
		errno(t, what, e, api.OK)
	}
	keep("Holds", sigma.Holds(c, r.list(0)))
	first, e := sigma.First(c, r.list(1))
	keep("First", e)
	one, e := sigma.Answer(r.list(1), r.list(0), r.lists[2][0])
	keep("Answer", e)
	two, _ := sigma.Answer(r.list(1), r.list(0), r.lists[2][1])
	keep("Accepts", sigma.Accepts(c, first, r.lists[2][0], one))
	errno(t, "Accepts", sigma.Accepts(c, r.first[:2], r.lists[2][0], r.list(3)), api.ErrRejects)
	xs, e := sigma.Extract(c, first, r.lists[2][0], one, r.lists[2][1], two)
	keep("Extract", e)
	made, e := sigma.Simulate(c, r.lists[2][0], r.list(3))
	keep("Simulate", e)
	p, e := sigma.Prove(c, r.list(0), r.list(1), transcript.New("room"))
	keep("Prove", e)
	keep("Verify", sigma.Verify(c, p, transcript.New("room")))
	a.elements = [][]msm.Free{first, made}
	a.scalars = [][]scalar.Scalar{one, two, xs, p.Answers}
	for known := 1; known <= 2; known++ {
		q, e := sigma.ProveEither(c, c, known, r.list(0), r.list(1), r.lists[2][0], r.list(4), transcript.New("room"))
		keep("ProveEither", e)
		keep("VerifyEither", sigma.VerifyEither(c, c, q, transcript.New("room")))
		a.scalars = append(a.scalars, q.A1, q.A2, []scalar.Scalar{q.C1, q.C2})
	}
	s, e := sigma.Sign(r.first[0], r.lists[0][0], r.lists[1][0], r.message[:20])
	keep("Sign", e)
	keep("Signed", sigma.Signed(r.first[0], r.first[0].Times(r.lists[0][0]), r.message[:20], s))
	a.scalars = append(a.scalars, s.Answers)
	return a
}

// same: are two answers the same?
func (a answers) same(b answers) bool {
	return slices.EqualFunc(a.scalars, b.scalars, slices.Equal[[]scalar.Scalar]) &&
		slices.EqualFunc(a.elements, b.elements, func(a, b []msm.Free) bool {
			return slices.EqualFunc(a, b, msm.Free.Same)
		})
}

// spoil: other things everywhere, the room behind them too.
func (a answers) spoil() {
	fill := func(list []scalar.Scalar) {
		whole := list[:cap(list)]
		for i := range whole {
			whole[i] = scalar.Int(888)
		}
	}
	for _, list := range a.scalars {
		fill(list)
	}
	for _, list := range a.elements {
		for _, p := range list[:cap(list)] {
			fill(p.K)
		}
		clear(list[:cap(list)])
	}
}

func TestP1101HandedInIsLeft(t *testing.T) {
	r := newRoom()
	a := r.answers(t)
	if !r.same(newRoom()) {
		t.Fatal("a call has changed what was handed in")
	}
	a.spoil()
	if !r.same(newRoom()) {
		t.Fatal("what is written into an answer is seen in what was handed in")
	}
}

func TestP1101HandedInIsNotKept(t *testing.T) {
	r := newRoom()
	a, b := r.answers(t), newRoom().answers(t)
	r.spoil()
	if !a.same(b) {
		t.Error("what is written into what was handed in is seen in an answer")
	}
	b.spoil()
	if !a.same(newRoom().answers(t)) {
		t.Error("what is written into one answer is seen in another")
	}
}

// scalarPlaces: where scalars stand, with the room behind them.
func scalarPlaces(lists ...[]scalar.Scalar) []*scalar.Scalar {
	var places []*scalar.Scalar
	for _, list := range lists {
		whole := list[:cap(list)]
		for i := range whole {
			places = append(places, &whole[i])
		}
	}
	return places
}

func TestP1101AnswersAreApart(t *testing.T) {
	a := newRoom().answers(t)
	lists := a.scalars
	for _, list := range a.elements {
		for _, p := range list {
			lists = append(lists, p.K)
		}
	}
	places := scalarPlaces(lists...)
	seen := map[*scalar.Scalar]int{}
	for _, place := range places {
		seen[place]++
	}
	if len(seen) != len(places) {
		t.Errorf("%d places of %d are shared", len(places)-len(seen), len(places))
	}
}

// The lists of a claim that is handed out are new; its elements are those that were handed in.
func TestP1107ListsOfClaimsAreNew(t *testing.T) {
	s, _ := gens.Basis(0)
	for _, c := range []func() sigma.Claim[msm.Free]{
		func() sigma.Claim[msm.Free] { return sigma.Key(s.B, s.Q) },
		func() sigma.Claim[msm.Free] { return sigma.Opening(s, s.Q) },
		func() sigma.Claim[msm.Free] { return sigma.Equal(s, s.Q, s.B) },
	} {
		one, two, three := c(), c(), c()
		for _, row := range one.Rows {
			clear(row[:cap(row)])
		}
		clear(one.Images[:cap(one.Images)])
		isClaim(t, "a claim", two, three.Rows, three.Images)
		for i, row := range two.Rows {
			clear(row[:cap(row)])
			for j, later := range two.Rows[i+1:] {
				if !slices.EqualFunc(later, three.Rows[i+1+j], msm.Free.Same) {
					t.Error("two rows share memory")
				}
			}
		}
		if !slices.EqualFunc(two.Images, three.Images, msm.Free.Same) {
			t.Error("rows and images share memory")
		}
	}
}

// What an Oracle does with its parts is seen nowhere: fixed turns every byte of them.
func TestP1101PartsAreTheOraclesOwn(t *testing.T) {
	r := newRoom()
	c := r.claim()
	ch := scalar.Int(7)
	for range 2 {
		spoiling, gentle := &fixed{ch: ch}, transcript.Given(ch)
		p, _ := sigma.Prove(c, r.list(0), r.list(1), spoiling)
		q, _ := sigma.Prove(c, r.list(0), r.list(1), gentle)
		if p.C != q.C || !slices.Equal(p.Answers, q.Answers) {
			t.Error("a proof hangs on what an Oracle writes into its parts")
		}
		heard(t, "Prove", spoiling.heard, gentle.Heard()...)
		if !r.same(newRoom()) {
			t.Error("what an Oracle writes into its parts is seen in what was handed in")
		}
	}
}

// Over a type that is no group all calls end.
func TestP1101NoGroup(t *testing.T) {
	for n := range 64 {
		a, b := sample.Wild(n), sample.Wild(3*n+1)
		c := sigma.Equal(gens.Set[sample.Wild]{B: a, Blind: b}, b, a)
		ks := ints(1, 2, uint64(n))
		o := transcript.New("wild")
		sigma.Holds(c, ks)
		sigma.First(c, ks)
		sigma.Accepts(c, []sample.Wild{a, b}, scalar.Int(3), ks)
		sigma.Extract(c, []sample.Wild{a, b}, scalar.Int(3), ks, scalar.Int(4), ks)
		sigma.Simulate(c, scalar.Int(3), ks)
		sigma.Prove(c, ks, ks, o)
		sigma.Verify(c, sigma.Proof{C: ks[0], Answers: ks}, o)
		sigma.ProveEither(c, c, 1+n%2, ks, ks, ks[0], ks, o)
		sigma.VerifyEither(c, c, sigma.Either{A1: ks, A2: ks}, o)
		p, _ := sigma.Sign(a, ks[1], ks[2], nil)
		sigma.Signed(a, b, nil, p)
	}
}
