package party

import (
	"veil/api"
	"veil/gens"
	"veil/ipa"
	"veil/msm"
	"veil/ranges"
	"veil/scalar"
	"veil/transcript"
	"veil/wire"
)

// Dealer: who puts the messages together.
type Dealer[P any] struct {
	work dealing[P] // nil: NewDealer didn't make it, so it counts as nil
}

// dealing: what a Dealer does. It stands behind an interface, for in a Dealer's methods P is any type, and not known to be a group.
type dealing[P any] interface {
	bits(ms []Bit[P]) (y, z scalar.Scalar, e api.Errno)
	polys(ms []Poly[P]) (x scalar.Scalar, e api.Errno)
	shares(ms []Share) ([]P, wire.Proof[P], []int, api.Errno)
}

// none: of a nil Dealer and of one that NewDealer did not make.
func (d *Dealer[P]) none() bool { return d == nil || d.work == nil }

// NewDealer: waits for the first messages.
func NewDealer[P msm.Group[P]](g gens.Set[P], p api.Params, o transcript.Oracle) (*Dealer[P], api.Errno) {
	switch {
	case o == nil:
		return nil, api.ErrArg
	case !p.Allowed():
		return nil, api.ErrParams
	case !enough(g, p):
		return nil, api.ErrLength
	}
	return &Dealer[P]{work: &dealer[P]{turn: ofBits, g: ownSet(g, p.Size()), p: p, o: o}}, api.OK
}

// Bits: all first messages: y and z.
func (d *Dealer[P]) Bits(ms ...Bit[P]) (y, z scalar.Scalar, e api.Errno) {
	if d.none() {
		return y, z, api.ErrArg
	}
	return d.work.bits(ms)
}

// Polys: all second messages: x.
func (d *Dealer[P]) Polys(ms ...Poly[P]) (x scalar.Scalar, e api.Errno) {
	if d.none() {
		return x, api.ErrArg
	}
	return d.work.polys(ms)
}

// Shares: all third messages: the commitments and the proof; or the places of the shares that are wrong.
func (d *Dealer[P]) Shares(ms ...Share) ([]P, wire.Proof[P], []int, api.Errno) {
	if d.none() {
		return nil, wire.Proof[P]{}, nil, api.ErrArg
	}
	return d.work.shares(ms)
}

// turn: whose turn it is at a dealer's.
type turn int

const (
	ofNone turn = iota // it is at its end
	ofBits
	ofPolys
	ofShares
)

// dealer: what a Dealer holds.
type dealer[P msm.Group[P]] struct {
	turn    turn
	g       gens.Set[P] // N of G and of H
	p       api.Params
	o       transcript.Oracle
	firsts  []Bit[P]       // by place
	seconds []Poly[P]      // by place
	view    ranges.View[P] // the sums and the challenges so far
}

// take: what a dealer holds. It is at its end, unless it is given that back: and that is not done where the Oracle answers an error.
func (d *dealer[P]) take() dealer[P] {
	held := *d
	*d = dealer[P]{}
	return held
}

// bits: says what is told up to z.
func (d *dealer[P]) bits(ms []Bit[P]) (y, z scalar.Scalar, e api.Errno) {
	all, e := byPlace(d.turn == ofBits, d.p, ms)
	if e != api.OK {
		return y, z, e
	}
	held := d.take()
	w, v := &held.view, make([]P, len(all))
	for j, b := range all {
		v[j] = own(b.V)
		w.A, w.S = w.A.Add(b.A), w.S.Add(b.S)
		held.firsts = append(held.firsts, Bit[P]{Place: j, V: v[j], A: own(b.A), S: own(b.S)})
	}
	t := talk{o: held.o}
	t.o.Absorb("range", le64(held.p.Bits), le64(held.p.Count))
	say(&t, "V", v...)
	say(&t, "A", w.A)
	say(&t, "S", w.S)
	w.Y, w.Z = t.ask("y"), t.ask("z")
	if t.e != api.OK {
		return y, z, t.e
	}
	held.turn = ofPolys
	*d = held
	return w.Y, w.Z, api.OK
}

// polys: says what is told up to x.
func (d *dealer[P]) polys(ms []Poly[P]) (x scalar.Scalar, e api.Errno) {
	all, e := byPlace(d.turn == ofPolys, d.p, ms)
	if e != api.OK {
		return x, e
	}
	held := d.take()
	w := &held.view
	for j, m := range all {
		w.T1, w.T2 = w.T1.Add(m.T1), w.T2.Add(m.T2)
		held.seconds = append(held.seconds, Poly[P]{Place: j, T1: own(m.T1), T2: own(m.T2)})
	}
	t := talk{o: held.o}
	say(&t, "T1", w.T1)
	say(&t, "T2", w.T2)
	w.X = t.ask("x")
	if t.e != api.OK {
		return x, t.e
	}
	held.turn = ofShares
	*d = held
	return w.X, api.OK
}

// shares: looks at each of them, and says the rest.
func (d *dealer[P]) shares(ms []Share) ([]P, wire.Proof[P], []int, api.Errno) {
	all, e := byPlace(d.turn == ofShares, d.p, ms)
	if e != api.OK {
		return nil, wire.Proof[P]{}, nil, e
	}
	if wrong := d.wrong(all); len(wrong) > 0 {
		return nil, wire.Proof[P]{}, wrong, api.ErrShares
	}
	held := d.take()
	proof, e := held.prove(all)
	if e != api.OK {
		return nil, wire.Proof[P]{}, nil, e
	}
	v := make([]P, len(held.firsts))
	for j, b := range held.firsts {
		v[j] = b.V
	}
	return v, proof, nil, api.OK
}

// wrong: the places of the shares that are not right, rising.
func (d *dealer[P]) wrong(all []Share) []int {
	var places []int
	for j, s := range all {
		if Right(d.g, d.p, d.firsts[j], d.seconds[j], s, d.view.Y, d.view.Z, d.view.X) != api.OK {
			places = append(places, j)
		}
	}
	return places
}

// prove: the rest is said; the proof for the sums.
func (d *dealer[P]) prove(all []Share) (wire.Proof[P], api.Errno) {
	w := d.view
	for _, s := range all {
		w.TauX, w.Mu, w.That = w.TauX.Add(s.TauX), w.Mu.Add(s.Mu), w.That.Add(s.That)
		w.L, w.R = append(w.L, s.L...), append(w.R, s.R...)
	}
	t := talk{o: d.o}
	say(&t, "taux", w.TauX)
	say(&t, "mu", w.Mu)
	say(&t, "that", w.That)
	ch := t.ask("w")
	if t.e != api.OK {
		return wire.Proof[P]{}, t.e
	}
	q, _, h, _ := ranges.Statement(d.g, d.p, w, ch)
	x, e := ipa.Prove(q, d.g.G, h, w.L, w.R, d.o)
	if e != api.OK {
		return wire.Proof[P]{}, e
	}
	say(&t, "a", x.A)
	say(&t, "b", x.B)
	t.ask("c")
	if t.e != api.OK {
		return wire.Proof[P]{}, t.e
	}
	return wire.Proof[P]{
		A: w.A, S: w.S, T1: w.T1, T2: w.T2,
		TauX: w.TauX, Mu: w.Mu, That: w.That,
		L: x.L, R: x.R, Ea: x.A, Eb: x.B,
	}, api.OK
}
