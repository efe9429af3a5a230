package wire_test

// A Reader by the chapter's words, numbers being math/big's, against which the program's is held; proofs whose numbers are known.

import (
	"bytes"
	"fmt"
	"math/big"
	"slices"
	"testing"

	"veil/api"
	"veil/group"
	"veil/msm"
	"veil/sample"
	"veil/scalar"
	"veil/wire"
)

const anySize = 1<<64 - 1

// written: the bytes of a number, digit by digit to the base 128.
func written(n *big.Int) []byte {
	rest, digit := new(big.Int).Set(n), new(big.Int)
	var b []byte
	for rest.BitLen() > 0 || len(b) == 0 {
		rest.DivMod(rest, big.NewInt(128), digit)
		b = append(b, byte(digit.Int64()))
	}
	for i := range len(b) - 1 {
		b[i] += 128
	}
	return b
}

func writtenInt(n uint64) []byte { return written(new(big.Int).SetUint64(n)) }

// writtenList: the bytes of a list of bytes.
func writtenList(x []byte) []byte { return slices.Concat(writtenInt(uint64(len(x))), x) }

// numberOf: the number at the front of b, and how many bytes it has.
func numberOf(b []byte) (*big.Int, int, api.Errno) {
	last := slices.IndexFunc(b, func(c byte) bool { return c < 128 })
	switch {
	case last < 0 && len(b) < 10:
		return nil, 0, api.ErrEnd
	case last < 0 || last > 9 || last == 9 && b[9] > 1 || last > 0 && b[last] == 0:
		return nil, 0, api.ErrNumber
	}
	n := new(big.Int)
	for i := last; i >= 0; i-- {
		n.Mul(n, big.NewInt(128)).Add(n, big.NewInt(int64(b[i]%128)))
	}
	return n, last + 1, api.OK
}

// paper: a Reader.
type paper struct {
	all   []byte
	place int
	fault api.Errno
}

func (p *paper) rest() []byte { return p.all[p.place:] }

// step: a thing was found, or a fault. It is told whether there is a thing.
func (p *paper) step(size int, e api.Errno) bool {
	if p.fault != api.OK {
		return false
	}
	p.fault = e
	if e == api.OK {
		p.place += size
	}
	return e == api.OK
}

func (p *paper) number(most uint64) uint64 {
	n, size, e := numberOf(p.rest())
	if e == api.OK && n.Cmp(new(big.Int).SetUint64(most)) > 0 {
		e = api.ErrNumber
	}
	if !p.step(size, e) {
		return 0
	}
	return n.Uint64()
}

// counted: a number of any size, of which most are allowed.
func (p *paper) counted(most int) (int, int, api.Errno) {
	if most < 0 {
		return 0, 0, api.ErrArg
	}
	n, size, e := numberOf(p.rest())
	if e != api.OK {
		return 0, 0, e
	}
	if n.Cmp(big.NewInt(int64(most))) > 0 {
		return 0, 0, api.ErrCount
	}
	return int(n.Int64()), size, api.OK
}

func (p *paper) bytes(most int) []byte {
	n, size, e := p.counted(most)
	if e == api.OK && len(p.rest())-size < n {
		e = api.ErrEnd
	}
	from := p.place + size
	if !p.step(size+n, e) {
		return nil
	}
	return p.all[from : from+n]
}

// fixed: the next 32 bytes, if check has nothing against them.
func (p *paper) fixed(check func(b api.Bytes32) api.Errno) api.Bytes32 {
	if len(p.rest()) < 32 {
		p.step(0, api.ErrEnd)
		return api.Bytes32{}
	}
	b := api.Bytes32(p.rest())
	if !p.step(32, check(b)) {
		return api.Bytes32{}
	}
	return b
}

func fine(api.Bytes32) api.Errno { return api.OK }

func ofScalar(b api.Bytes32) api.Errno {
	if sample.Number(b[:]).Cmp(sample.L()) >= 0 {
		return api.ErrCanon
	}
	return api.OK
}

func ofPoint(b api.Bytes32) api.Errno {
	_, e := group.Point{}.Decode(b)
	return e
}

func ofFree(api.Bytes32) api.Errno { return api.ErrPoint }

// list: as many as the number says, most at most, of what one reads.
func list[T any](p *paper, most int, one func(p *paper) T) []T {
	n, size, e := p.counted(most)
	if e == api.OK && n > 1048576 {
		e = api.ErrCount
	}
	if !p.step(size, e) {
		return nil
	}
	var all []T
	for range n {
		all = append(all, one(p))
		if p.fault != api.OK {
			return nil
		}
	}
	return all
}

// stands: is the place, and the fault, where it stands on paper?
func stands(t *testing.T, what string, r *wire.Reader, p *paper) {
	t.Helper()
	if r.Left() != len(p.rest()) || r.Err() != p.fault {
		t.Errorf("%s of %v: %d left, fault %d, want %d and %d", what, p.all, r.Left(), r.Err(), len(p.rest()), p.fault)
	}
}

// stays: no call reads on behind a fault, and another fault does not count.
func stays(t *testing.T, r *wire.Reader, fault api.Errno) {
	t.Helper()
	left, calls := r.Left(), 0
	got := fmt.Sprint(r.Number(anySize), r.Number(0), len(r.Bytes(1<<20)), len(r.Bytes(-1)), r.Bytes32(), r.Scalar(), wire.Point[msm.Line](r), wire.Point[sample.Wild](r))
	want := fmt.Sprint(0, 0, 0, 0, api.Bytes32{}, scalar.Scalar{}, msm.Line{}, sample.Wild(0))
	one := func(r *wire.Reader) byte { calls++; return 1 }
	if list := wire.List(r, 1<<20, one); list != nil || calls != 0 || wire.List(r, -1, one) != nil || wire.List[int](r, 3, nil) != nil || got != want {
		t.Errorf("behind the fault %d: %s, a list of %d", fault, got, len(list))
	}
	r.Fail(api.ErrTx)
	r.Fail(api.OK)
	if r.Err() != fault || r.End() != fault || r.Left() != left {
		t.Errorf("the fault %d became %d, %d left of %d", fault, r.Err(), r.Left(), left)
	}
}

// proof: of numbers that are known, with so many rounds, and its bytes.
func proof[P msm.Group[P]](m *sample.Maker, kind sample.Kind[P], rounds int) (wire.Proof[P], []byte) {
	var b []byte
	element := func() P {
		a := kind.Of(m, kind.Any(m))
		e := a.Encode()
		b = append(b, e[:]...)
		return a
	}
	number := func() scalar.Scalar {
		n := m.Number()
		e := sample.Bytes32(n)
		b = append(b, e[:]...)
		return m.Limbs(n)
	}
	p := wire.Proof[P]{}
	p.A = element()
	p.S = element()
	p.T1 = element()
	p.T2 = element()
	p.TauX = number()
	p.Mu = number()
	p.That = number()
	for range rounds {
		p.L = append(p.L, element())
		p.R = append(p.R, element())
	}
	p.Ea = number()
	p.Eb = number()
	return p, b
}

// sameProof: are the elements and scalars of two proofs the same?
func sameProof[P msm.Group[P]](p, q wire.Proof[P]) bool {
	elements := func(p wire.Proof[P]) []P { return slices.Concat([]P{p.A, p.S, p.T1, p.T2}, p.L, p.R) }
	scalars := func(p wire.Proof[P]) []scalar.Scalar {
		return []scalar.Scalar{p.TauX, p.Mu, p.That, p.Ea, p.Eb}
	}
	return len(p.L) == len(q.L) && len(p.R) == len(q.R) && slices.EqualFunc(elements(p), elements(q), P.Same) && slices.EqualFunc(scalars(p), scalars(q), scalar.Scalar.Same)
}

// noProof: the zero Proof and an error.
func noProof[P msm.Group[P]](t *testing.T, what string, p wire.Proof[P], got, want api.Errno) {
	t.Helper()
	if got != want || fmt.Sprint(p) != fmt.Sprint(wire.Proof[P]{}) {
		t.Errorf("%s: %v, %d, want the zero Proof and %d", what, p, got, want)
	}
}

// at: a copy of a proof's bytes with other 32 bytes at a slot.
func at(b []byte, slot int, other api.Bytes32) []byte {
	b = bytes.Clone(b)
	copy(b[32*slot:], other[:])
	return b
}

// isScalar: does a slot of a proof's bytes hold a scalar?
func isScalar(slot, slots int) bool { return slot >= 4 && slot < 7 || slot >= slots-2 }
