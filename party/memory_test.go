package party_test

// P1401, and the document's rules: what is handed in is left alone and kept as a copy alone, what is handed out is new; types that are no group.

import (
	"slices"
	"testing"

	"veil/api"
	"veil/gens"
	"veil/msm"
	"veil/party"
	"veil/ranges"
	"veil/sample"
	"veil/scalar"
	"veil/transcript"
	"veil/wire"
)

// roomParams: of a room: 4 places of 2 bits.
func roomParams() api.Params { return api.Params{Bits: 2, Count: 4} }

// room: all that calls are handed, over Free, with others behind them.
type room struct {
	set    gens.Set[msm.Free]
	vs     []ranges.Opening
	tapes  []ranges.Tape
	given  []scalar.Scalar   // challenges
	memory [][]scalar.Scalar // all scalars of lists and elements, with the room behind them
}

// scalars: so many, and two more behind them.
func (r *room) scalars(m *sample.Maker, count int) []scalar.Scalar {
	whole := make([]scalar.Scalar, count+2)
	for i := range whole {
		whole[i] = sample.Words(sample.Number(m.Bytes(32)))
	}
	r.memory = append(r.memory, whole)
	return whole[:count]
}

func (r *room) elements(m *sample.Maker, count int) []msm.Free {
	list := make([]msm.Free, count+2)
	for i := range list {
		list[i] = msm.Free{K: r.scalars(m, 3)}
	}
	return list[:count]
}

func newRoom() *room {
	m := sample.Maker(1401)
	r, p := &room{}, roomParams()
	three := r.elements(&m, 3)
	r.set = gens.Set[msm.Free]{B: three[0], Blind: three[1], Q: three[2], G: r.elements(&m, p.Size()), H: r.elements(&m, p.Size())}
	for j := range p.Count + 2 {
		k := r.scalars(&m, 5)
		r.vs = append(r.vs, ranges.Opening{V: uint64(j % 4), Blind: k[0]})
		r.tapes = append(r.tapes, ranges.Tape{Alpha: k[1], Rho: k[2], Tau1: k[3], Tau2: k[4], SL: r.scalars(&m, p.Bits), SR: r.scalars(&m, p.Bits)})
	}
	r.vs, r.tapes = r.vs[:p.Count], r.tapes[:p.Count]
	r.given = r.scalars(&m, 5+p.Rounds())
	return r
}

func wholeOf[T any](list []T) []T { return list[:cap(list)] }

func sameFrees(a, b []msm.Free) bool {
	return slices.EqualFunc(a, b, func(a, b msm.Free) bool { return slices.Equal(a.K, b.K) })
}

func sameLists(a, b [][]scalar.Scalar) bool {
	return slices.EqualFunc(a, b, slices.Equal[[]scalar.Scalar])
}

// same: do two rooms hold the same, in all places?
func (r *room) same(s *room) bool {
	return sameLists(r.memory, s.memory) && slices.Equal(wholeOf(r.vs), wholeOf(s.vs)) &&
		slices.EqualFunc(wholeOf(r.tapes)[:6], wholeOf(s.tapes)[:6], sameTapes) &&
		sameFrees(wholeOf(r.set.G), wholeOf(s.set.G)) && sameFrees(wholeOf(r.set.H), wholeOf(s.set.H)) &&
		sameFrees([]msm.Free{r.set.B, r.set.Blind, r.set.Q}, []msm.Free{s.set.B, s.set.Blind, s.set.Q})
}

// fill: other scalars everywhere, the room behind them too.
func fill(list []scalar.Scalar) {
	for i := range wholeOf(list) {
		wholeOf(list)[i] = scalar.Int(999)
	}
}

// spoil: other things everywhere.
func (r *room) spoil() {
	for _, list := range r.memory {
		fill(list)
	}
	clear(wholeOf(r.set.G))
	clear(wholeOf(r.set.H))
	clear(wholeOf(r.vs))
	clear(wholeOf(r.tapes))
}

// copies: the same elements in memory of their own, one more behind them.
func copies(list ...msm.Free) []msm.Free {
	var out []msm.Free
	for _, p := range list {
		out = append(out, msm.Free{K: append(slices.Clone(p.K), num(55))[:len(p.K)]})
	}
	return out
}

// notes: what was answered, when it was, and the memory of it.
type notes struct {
	then, live [][]scalar.Scalar
}

func (n *notes) lists(lists ...[]scalar.Scalar) {
	for _, list := range lists {
		n.then, n.live = append(n.then, slices.Clone(list)), append(n.live, list)
	}
}

func (n *notes) elements(list ...msm.Free) {
	for _, p := range list {
		n.lists(p.K)
	}
}

func (n *notes) proof(v []msm.Free, x wire.Proof[msm.Free]) {
	n.elements(v...)
	n.elements(x.A, x.S, x.T1, x.T2)
	n.elements(x.L...)
	n.elements(x.R...)
	n.lists([]scalar.Scalar{x.TauX, x.Mu, x.That, x.Ea, x.Eb})
}

// made: parties and dealer, message by message. If it is disturbed, all that a call was handed is written over behind it, and so is all that it answered.
func (r *room) made(t *testing.T, disturbed bool) *notes {
	t.Helper()
	p, n := roomParams(), &notes{}
	good := func(what string, e api.Errno) {
		t.Helper()
		errno(t, what, e, api.OK)
	}
	over := func(lists ...[]scalar.Scalar) {
		for _, list := range lists {
			if disturbed {
				fill(list)
			}
		}
	}
	d, e := party.NewDealer(r.set, p, transcript.Given(r.given...))
	good("NewDealer", e)
	var all []*party.Party[msm.Free]
	var bits []party.Bit[msm.Free]
	for j := range p.Count {
		q, b, e := party.Join(r.set, p, j, r.vs[j], r.tapes[j])
		good("Join", e)
		n.elements(b.V, b.A, b.S)
		own := copies(b.V, b.A, b.S)
		all, bits = append(all, q), append(bits, party.Bit[msm.Free]{Place: j, V: own[0], A: own[1], S: own[2]})
		over(b.V.K, b.A.K, b.S.K)
	}
	if disturbed {
		r.spoil()
	}
	y, z, e := d.Bits(bits...)
	good("Bits", e)
	var polys []party.Poly[msm.Free]
	for j, q := range all {
		over(bits[j].V.K, bits[j].A.K, bits[j].S.K)
		m, e := q.Poly(y, z)
		good("Poly", e)
		n.elements(m.T1, m.T2)
		own := copies(m.T1, m.T2)
		polys = append(polys, party.Poly[msm.Free]{Place: j, T1: own[0], T2: own[1]})
		over(m.T1.K, m.T2.K)
	}
	x, e := d.Polys(polys...)
	good("Polys", e)
	n.lists([]scalar.Scalar{y, z, x})
	var shares []party.Share
	for j, q := range all {
		over(polys[j].T1.K, polys[j].T2.K)
		s, e := q.Share(x)
		good("Share", e)
		n.lists(s.L, s.R, []scalar.Scalar{s.TauX, s.Mu, s.That})
		own := copies(msm.Free{K: s.L}, msm.Free{K: s.R})
		shares = append(shares, party.Share{Place: j, TauX: s.TauX, Mu: s.Mu, That: s.That, L: own[0].K, R: own[1].K})
		over(s.L, s.R)
	}
	bad := slices.Clone(shares)
	bad[1].Mu, bad[3].TauX = num(1), num(2)
	_, _, places, e := d.Shares(bad...)
	errno(t, "Shares", e, api.ErrShares)
	if !slices.Equal(places, []int{1, 3}) {
		t.Errorf("the places %v", places)
	}
	v, proof, _, e := d.Shares(shares...)
	good("Shares", e)
	n.proof(v, proof)
	return n
}

// atOnce: all that the other calls answer.
func (r *room) atOnce(t *testing.T) *notes {
	t.Helper()
	n, p := &notes{}, roomParams()
	v, x, e := party.Together(r.set, p, r.vs, r.tapes, transcript.Given(r.given...))
	errno(t, "Together", e, api.OK)
	n.proof(v, x)
	whole, e := party.Whole(p, r.tapes...)
	errno(t, "Whole", e, api.OK)
	n.lists(whole.SL, whole.SR, []scalar.Scalar{whole.Alpha, whole.Rho, whole.Tau1, whole.Tau2})
	return n
}

func TestP1401HandedInIsLeft(t *testing.T) {
	r := newRoom()
	all := append(r.made(t, false).live, r.atOnce(t).live...)
	if !r.same(newRoom()) {
		t.Fatal("a call has changed what was handed in")
	}
	for _, list := range all {
		fill(list)
	}
	if !r.same(newRoom()) {
		t.Fatal("what is written into an answer is seen in what was handed in")
	}
}

func TestP1401KeptAsCopies(t *testing.T) {
	if !sameLists(newRoom().made(t, true).then, newRoom().made(t, false).then) {
		t.Error("what is written into what was handed in, or handed out, is seen in an answer")
	}
}

func TestP1401HandedOutIsNew(t *testing.T) {
	r := newRoom()
	n, o := r.made(t, false), r.atOnce(t)
	if !sameLists(n.then, n.live) {
		t.Error("a later call has changed an answer")
	}
	r.spoil()
	if !sameLists(n.then, n.live) || !sameLists(o.then, o.live) {
		t.Error("what is written into what was handed in is seen in an answer")
	}
	seen, count := map[*scalar.Scalar]int{}, 0
	for _, list := range slices.Concat(n.live, o.live, r.memory) {
		for i := range wholeOf(list) {
			seen[&wholeOf(list)[i]]++
			count++
		}
	}
	if len(seen) != count {
		t.Errorf("%d places of %d are shared", count-len(seen), count)
	}
}

// post: the messages of all places, the last one of them again behind each list.
type post struct {
	bits   []party.Bit[msm.Free]
	polys  []party.Poly[msm.Free]
	shares []party.Share
}

func newPost(w world, a asked) post {
	m := sample.Maker(14010)
	bits, polys, shares := messages(&m, sample.Frees(), saidBy(&m, w, a))
	slices.Reverse(bits)
	slices.Reverse(shares)
	n := w.p.Count
	return post{append(bits, bits[n-1])[:n], append(polys, polys[n-1])[:n], append(shares, shares[n-1])[:n]}
}

// memory: all that the messages hold, and what stands behind it.
func (s post) memory() [][]scalar.Scalar {
	var n notes
	for i := range len(s.bits) + 1 {
		b, m, x := wholeOf(s.bits)[i], wholeOf(s.polys)[i], wholeOf(s.shares)[i]
		n.elements(b.V, b.A, b.S, m.T1, m.T2)
		n.lists(x.L, x.R, []scalar.Scalar{x.TauX, x.Mu, x.That}, nums(int64(b.Place), int64(m.Place), int64(x.Place)))
	}
	for i, list := range n.live {
		n.live[i] = wholeOf(list)
	}
	return n.live
}

// Messages are as they were, and so is what stands behind them, in whatever order they came.
func TestP1401MessagesAreLeft(t *testing.T) {
	m := sample.Maker(14011)
	kind, p := sample.Frees(), roomParams()
	w, a := anyWorld(&m, kind, p), anyAsked(&m, p)
	s, g := newPost(w, a), setOf(&m, kind, w)
	d, _ := party.NewDealer(g, p, answering(&m, a))
	_, _, e := d.Bits(s.bits...)
	errno(t, "Bits", e, api.OK)
	_, e = d.Polys(s.polys...)
	errno(t, "Polys", e, api.OK)
	_, _, _, e = d.Shares(s.shares...)
	errno(t, "Shares", e, api.OK)
	errno(t, "Right", party.Right(g, p, s.bits[1], s.polys[2], s.shares[1], m.Limbs(a.y), m.Limbs(a.z), m.Limbs(a.x)), api.OK)
	if !sameLists(s.memory(), newPost(w, a).memory()) {
		t.Error("a call has changed messages that were handed in")
	}
}

// nil and empty lists are the same.
func TestP1401NilAndEmpty(t *testing.T) {
	p := api.Params{Bits: 1, Count: 1}
	for _, list := range [][]scalar.Scalar{nil, {}} {
		_, _, e := party.Join(lineSet(1, 1), p, 0, ranges.Opening{}, ranges.Tape{SL: list, SR: list})
		errno(t, "Join", e, api.ErrLength)
		errno(t, "Right", party.Right(lineSet(1, 1), p, party.Bit[msm.Line]{}, party.Poly[msm.Line]{}, party.Share{L: list, R: list}, num(1), num(1), num(1)), api.ErrLength)
	}
	d, _ := party.NewDealer(lineSet(1, 1), p, transcript.New("nothing"))
	for _, list := range [][]party.Bit[msm.Line]{nil, {}} {
		_, _, e := d.Bits(list...)
		errno(t, "Bits", e, api.ErrLength)
	}
}

// Over a type that is no group all calls end.
func TestP1401NoGroup(t *testing.T) {
	p := api.Params{Bits: 1, Count: 4}
	for n := range 32 {
		a := []sample.Wild{sample.Wild(n), 1, 2, sample.Wild(3 * n)}
		g := gens.Set[sample.Wild]{B: a[0], Blind: a[1], Q: a[3], G: a, H: a}
		vs, tapes := handedLines(p)
		ended(t, "Together", func() { _, _, _ = party.Together(g, p, vs, tapes, transcript.New("wild")) })
		d, _ := party.NewDealer(g, p, transcript.New("wild"))
		all, bits := parties(t, g, p, vs, tapes)
		y, z, _ := d.Bits(bits...)
		var polys []party.Poly[sample.Wild]
		for _, q := range all {
			m, _ := q.Poly(y, z)
			polys = append(polys, m)
		}
		x, _ := d.Polys(polys...)
		var shares []party.Share
		for j, q := range all {
			s, _ := q.Share(x)
			shares = append(shares, s)
			party.Right(g, p, bits[j], polys[j], s, y, z, x)
		}
		_, _, _, _ = d.Shares(shares...)
	}
}
