package party

import (
	"slices"
	"sync"

	"veil/api"
	"veil/gens"
	"veil/msm"
	"veil/ranges"
	"veil/scalar"
	"veil/transcript"
	"veil/wire"
)

// Together: parties and dealer at once, each on its own.
func Together[P msm.Group[P]](g gens.Set[P], p api.Params, vs []ranges.Opening, tapes []ranges.Tape, o transcript.Oracle) ([]P, wire.Proof[P], api.Errno) {
	d, e := NewDealer(g, p, o)
	if e == api.OK {
		e = ready(p, vs, tapes)
	}
	if e != api.OK {
		return nil, wire.Proof[P]{}, e
	}
	h := newHall[P](p.Count)
	defer h.inside.Wait()
	for place := range p.Count {
		h.inside.Go(func() {
			q, b, _ := Join(g, p, place, vs[place], tapes[place])
			h.attend(q, b)
		})
	}
	return h.deal(d)
}

// ready: what is wrong with the openings and tapes of all parties.
func ready(p api.Params, vs []ranges.Opening, tapes []ranges.Tape) api.Errno {
	top, some := p.Top()
	switch {
	case len(vs) != p.Count || !fit(p, tapes):
		return api.ErrLength
	case some && slices.ContainsFunc(vs, func(v ranges.Opening) bool { return v.V >= top }):
		return api.ErrValue
	}
	return api.OK
}

// hall: where the parties and their dealer meet.
type hall[P any] struct {
	inside sync.WaitGroup // all goroutines
	bits   *round[Bit[P]]
	polys  *round[Poly[P]]
	shares *round[Share]
	yz     chan [2]scalar.Scalar // each party takes y and z once,
	x      chan scalar.Scalar    // and x once
}

func newHall[P any](parties int) *hall[P] {
	return &hall[P]{
		bits:   newRound[Bit[P]](parties),
		polys:  newRound[Poly[P]](parties),
		shares: newRound[Share](parties),
		yz:     make(chan [2]scalar.Scalar),
		x:      make(chan scalar.Scalar),
	}
}

// attend: what a party does. No challenge comes any more, if the dealer is at its end.
func (h *hall[P]) attend(q *Party[P], b Bit[P]) {
	h.bits.send(b)
	yz, more := <-h.yz
	if !more {
		return
	}
	t, _ := q.Poly(yz[0], yz[1])
	h.polys.send(t)
	x, more := <-h.x
	if !more {
		return
	}
	s, _ := q.Share(x)
	h.shares.send(s)
}

// deal: what the dealer does. However it ends, no party waits for ever.
func (h *hall[P]) deal(d *Dealer[P]) ([]P, wire.Proof[P], api.Errno) {
	defer close(h.yz)
	defer close(h.x)
	y, z, e := d.Bits(gather(&h.inside, h.bits, nil, 0)...)
	if e != api.OK {
		return nil, wire.Proof[P]{}, e
	}
	x, e := d.Polys(gather(&h.inside, h.polys, h.yz, [2]scalar.Scalar{y, z})...)
	if e != api.OK {
		return nil, wire.Proof[P]{}, e
	}
	v, proof, _, e := d.Shares(gather(&h.inside, h.shares, h.x, x)...)
	return v, proof, e
}

// round: over which each party sends one message to the dealer.
type round[M any] struct {
	messages chan M
	missing  sync.WaitGroup // the parties that have not sent theirs
}

func newRound[M any](parties int) *round[M] {
	r := &round[M]{messages: make(chan M)}
	r.missing.Add(parties)
	return r
}

// send: a party's message.
func (r *round[M]) send(m M) {
	r.messages <- m
	r.missing.Done()
}

// end: it is closed when all have come.
func (r *round[M]) end() {
	r.missing.Wait()
	close(r.messages)
}

// gather: all messages of a round, in whatever order they come. What they answer to goes out meanwhile, to each party that takes it; over a nil channel nothing goes out.
func gather[M, C any](inside *sync.WaitGroup, r *round[M], out chan<- C, challenge C) []M {
	inside.Go(r.end)
	var all []M
	for {
		select {
		case m, more := <-r.messages:
			if !more {
				return all
			}
			all = append(all, m)
		case out <- challenge:
		}
	}
}
