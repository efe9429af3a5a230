package wire_test

// P1003: where a Reader stands. P1005: lists of bytes, 32 bytes, scalars, elements.

import (
	"bytes"
	"fmt"
	"math"
	"math/big"
	"slices"
	"testing"

	"veil/api"
	"veil/group"
	"veil/msm"
	"veil/sample"
	"veil/scalar"
	"veil/wire"
)

func TestP1003Fresh(t *testing.T) {
	for _, b := range [][]byte{nil, {}, {0}, {128}, make([]byte, 1000)} {
		r := wire.NewReader(b)
		if r == nil || r.Left() != len(b) || r.Err() != api.OK {
			t.Errorf("NewReader(%v): %d left, fault %d", b, r.Left(), r.Err())
		}
	}
}

func TestP1003End(t *testing.T) {
	r := wire.NewReader(nil)
	if r.End() != api.OK || r.End() != api.OK || r.Err() != api.OK {
		t.Errorf("End of nothing: %d", r.Err())
	}
	r.Number(9)
	stays(t, r, api.ErrEnd)

	r = wire.NewReader([]byte{5, 6})
	if r.Number(9) != 5 || r.Err() != api.OK || r.Left() != 1 {
		t.Errorf("the first of two numbers: %d, %d left", r.Err(), r.Left())
	}
	if r.End() != api.ErrRest || r.Left() != 1 {
		t.Errorf("End with a byte left: %d, %d left", r.Err(), r.Left())
	}
	stays(t, r, api.ErrRest)

	r = wire.NewReader([]byte{5, 6})
	if r.Number(9) != 5 || r.Number(9) != 6 || r.End() != api.OK || r.Left() != 0 {
		t.Errorf("End behind all: %d", r.Err())
	}
}

func TestP1003Fail(t *testing.T) {
	for _, e := range []api.Errno{api.ErrArg, api.ErrRest, api.ErrTx, -3, 5000} {
		r := wire.NewReader([]byte{5, 6})
		r.Fail(api.OK)
		if r.Err() != api.OK || r.Number(9) != 5 {
			t.Errorf("Fail(OK): %d", r.Err())
		}
		r.Fail(e)
		if r.Err() != e || r.Left() != 1 {
			t.Errorf("Fail(%d): %d, %d left", e, r.Err(), r.Left())
		}
		stays(t, r, e)
	}
}

// Left tells of the bytes behind the place, whatever the fault is.
func TestP1003LeftBehindAFault(t *testing.T) {
	for n := range 40 {
		r := wire.NewReader(make([]byte, n))
		for range n / 2 {
			r.Number(0)
		}
		r.Fail(api.ErrSpent)
		if r.Left() != n-n/2 {
			t.Errorf("%d left of %d behind %d", r.Left(), n, n/2)
		}
	}
}

// readsBytes: holds one Bytes against the paper's.
func readsBytes(t *testing.T, b []byte, most int) {
	t.Helper()
	r, p := wire.NewReader(b), &paper{all: b}
	if got, want := r.Bytes(most), p.bytes(most); !bytes.Equal(got, want) {
		t.Errorf("Bytes(%d) of %v = %v, want %v", most, b, got, want)
	}
	stands(t, "Bytes", r, p)
	if p.fault != api.OK {
		stays(t, r, p.fault)
	}
}

func TestP1005Bytes(t *testing.T) {
	m := sample.Maker(1005)
	for _, n := range []int{0, 1, 2, 126, 127, 128, 129, 300, 20000} {
		b := append(writtenList(m.Bytes(n)), 1, 2, 3)
		for _, most := range []int{math.MinInt, -1, 0, 1, n - 1, n, n + 1, 1 << 20, math.MaxInt} {
			readsBytes(t, b, most)
			readsBytes(t, b[:len(b)-3], most)
			readsBytes(t, b[:len(b)-4], most)
			readsBytes(t, b[:len(writtenInt(uint64(n)))], most)
			readsBytes(t, b[:1], most)
			readsBytes(t, nil, most)
		}
	}
}

// The faults of the number come ahead of its size, and its size ahead of the bytes that are not there.
func TestP1005OrderOfFaults(t *testing.T) {
	full := append(bytes.Repeat([]byte{255}, 9), 1)
	for _, c := range []struct {
		b    []byte
		most int
		want api.Errno
	}{
		{[]byte{128, 0}, -1, api.ErrArg}, {nil, -1, api.ErrArg}, {[]byte{3, 1}, -1, api.ErrArg},
		{[]byte{128, 0}, 0, api.ErrNumber}, {[]byte{255}, 0, api.ErrEnd}, {bytes.Repeat([]byte{128}, 10), 0, api.ErrNumber},
		{[]byte{3, 1}, 2, api.ErrCount}, {[]byte{3, 1}, 3, api.ErrEnd}, {[]byte{1}, 0, api.ErrCount}, {[]byte{1}, 1, api.ErrEnd},
		{full, 0, api.ErrCount}, {full, math.MaxInt, api.ErrCount}, {writtenInt(1 << 63), math.MaxInt, api.ErrCount}, {writtenInt(1<<63 - 1), math.MaxInt, api.ErrEnd},
		{writtenInt(1<<63 - 1), math.MaxInt - 1, api.ErrCount}, {writtenInt(1 << 32), math.MaxInt, api.ErrEnd},
	} {
		r := wire.NewReader(c.b)
		if got := r.Bytes(c.most); len(got) != 0 || r.Err() != c.want || r.Left() != len(c.b) {
			t.Errorf("Bytes(%d) of %v: %v, %d, want %d", c.most, c.b, got, r.Err(), c.want)
		}
		stays(t, r, c.want)
	}
}

func TestP1005Bytes32(t *testing.T) {
	m := sample.Maker(10050)
	for n := range 70 {
		b := m.Bytes(n)
		r, p := wire.NewReader(b), &paper{all: b}
		for range 3 {
			if got, want := r.Bytes32(), p.fixed(fine); got != want {
				t.Errorf("Bytes32 of %d bytes = %v, want %v", n, got, want)
			}
			stands(t, "Bytes32", r, p)
		}
	}
}

// codes: bytes about the edges of what is taken.
func codes(m *sample.Maker) []api.Bytes32 {
	var list []api.Bytes32
	for _, n := range []*big.Int{new(big.Int), sample.L(), sample.P(), sample.Power2(252), sample.Power2(255), new(big.Int).Sub(sample.Power2(256), big.NewInt(2))} {
		for d := int64(-2); d <= 1; d++ {
			if near := new(big.Int).Add(n, big.NewInt(d)); near.Sign() >= 0 {
				list = append(list, sample.Bytes32(near))
			}
		}
	}
	for range 20 {
		list = append(list, m.Bytes32(), sample.Bytes32(m.Number()), group.Base().Times(m.Limbs(m.Number())).Encode())
	}
	return list
}

func TestP1005Scalars(t *testing.T) {
	m := sample.Maker(10051)
	for _, c := range codes(&m) {
		for _, size := range []int{31, 32, 33} {
			b := append(c[:], 1)[:size]
			r, p := wire.NewReader(b), &paper{all: b}
			if got, want := r.Scalar(), p.fixed(ofScalar); got.Encode() != want || got != got.Least() {
				t.Errorf("Scalar of %x = %v, want %x", b, got, want)
			}
			stands(t, "Scalar", r, p)
		}
	}
}

// readsPoint: holds one Point against the paper's: the bytes of the element are those that were read.
func readsPoint[P msm.Group[P]](t *testing.T, b []byte, check func(b api.Bytes32) api.Errno) {
	t.Helper()
	r, p := wire.NewReader(b), &paper{all: b}
	got, want := wire.Point[P](r), p.fixed(check)
	var neutral P
	if p.fault == api.OK && got.Encode() != want || p.fault != api.OK && fmt.Sprint(got) != fmt.Sprint(neutral) {
		t.Errorf("Point of %x = %v, want %x", b, got, want)
	}
	stands(t, "Point", r, p)
	if p.fault != api.OK {
		stays(t, r, p.fault)
	}
}

func TestP1005Points(t *testing.T) {
	m := sample.Maker(10052)
	taken := 0
	for _, c := range codes(&m) {
		for _, size := range []int{0, 31, 32, 33} {
			b := append(c[:], 1)[:size]
			readsPoint[msm.Line](t, b, ofScalar)
			readsPoint[group.Point](t, b, ofPoint)
			readsPoint[msm.Free](t, b, ofFree)
		}
		if ofPoint(c) == api.OK {
			taken++
		}
	}
	if taken < 20 {
		t.Errorf("%d elements were taken", taken)
	}
}

// Picky: its Decode answers an error that the bytes name, and something beside it.
type Picky struct{ heard bool }

func (a Picky) Add(b Picky) Picky          { return a }
func (a Picky) Neg() Picky                 { return a }
func (a Picky) Double() Picky              { return a }
func (a Picky) Times(scalar.Scalar) Picky  { return a }
func (a Picky) Same(b Picky) bool          { return a == b }
func (a Picky) Encode() (none api.Bytes32) { return none }
func (a Picky) Decode(b api.Bytes32) (Picky, api.Errno) {
	if a != (Picky{}) {
		return a, 999 // it was asked of another than the zero value
	}
	return Picky{heard: true}, api.Errno(b[0])
}

// The fault is what Decode answers, of the zero value; what it answers beside an error is not handed on.
func TestP1005DecodeTellsTheFault(t *testing.T) {
	for e := range 256 {
		b := append([]byte{byte(e)}, make([]byte, 40)...)
		r := wire.NewReader(b)
		got := wire.Point[Picky](r)
		if want := (Picky{heard: e == 0}); got != want || r.Err() != api.Errno(e) || e == 0 && r.Left() != 9 || e != 0 && r.Left() != 41 {
			t.Errorf("Point: %v, %d, %d left; Decode answers %d", got, r.Err(), r.Left(), e)
		}
	}
}

func TestP1005PointerGroups(t *testing.T) {
	b := sample.Bytes32(big.NewInt(77))
	r := wire.NewReader(b[:])
	if got := wire.Point[*sample.Box](r); got.Encode() != b || r.End() != api.OK {
		t.Errorf("Point of 77: %d", r.Err())
	}
	if got := wire.Point[*sample.Box](r); got != nil || r.Err() != api.ErrEnd {
		t.Errorf("Point of nothing: %v, %d", got, r.Err())
	}
	if got := wire.Point[*sample.Box](nil); got != nil {
		t.Errorf("Point of no Reader: %v", got)
	}
}

// turn: a reading call, on paper too, and what they answer.
type turn struct {
	name string
	got  func(r *wire.Reader) any
	want func(p *paper) any
}

// someTurn: any reading call.
func someTurn(m *sample.Maker) turn {
	most := uint64(1)<<(m.Next()%64) - m.Next()%2
	few := int(m.Next()%70) - 2
	switch m.Next() % 8 {
	case 0:
		return turn{"Bytes", func(r *wire.Reader) any { return string(r.Bytes(few)) }, func(p *paper) any { return string(p.bytes(few)) }}
	case 1:
		return turn{"Bytes32", func(r *wire.Reader) any { return r.Bytes32() }, func(p *paper) any { return p.fixed(fine) }}
	case 2:
		return turn{"Scalar", func(r *wire.Reader) any { return r.Scalar().Encode() }, func(p *paper) any { return p.fixed(ofScalar) }}
	case 3:
		return turn{"Point", func(r *wire.Reader) any { return wire.Point[group.Point](r).Encode() }, func(p *paper) any { return p.fixed(ofPoint) }}
	case 4:
		return turn{"List", func(r *wire.Reader) any {
			return fmt.Sprint(wire.List(r, few, func(r *wire.Reader) uint64 { return r.Number(most) }))
		}, func(p *paper) any {
			return fmt.Sprint(list(p, few, func(p *paper) uint64 { return p.number(most) }))
		}}
	}
	return turn{"Number", func(r *wire.Reader) any { return r.Number(most) }, func(p *paper) any { return p.number(most) }}
}

// someBytes: numbers, lists and codes, one behind another, now and then cut or with a wrong byte.
func someBytes(m *sample.Maker, list []api.Bytes32) []byte {
	var b []byte
	for range m.Next() % 9 {
		switch m.Next() % 4 {
		case 0:
			b = append(b, writtenInt(m.Next()>>(m.Next()%64))...)
		case 1:
			b = append(b, writtenList(m.Bytes(int(m.Next()%20)))...)
		case 2:
			c := list[m.Next()%uint64(len(list))]
			b = append(b, c[:]...)
		case 3:
			b = append(b, byte(m.Next()%6))
		}
	}
	if len(b) > 0 && m.Next()%3 == 0 {
		b[m.Next()%uint64(len(b))] = byte(m.Next())
		b = b[:m.Next()%uint64(len(b)+1)]
	}
	return b
}

// Behind every reading call of any sequence the place and the fault stand where they do on paper.
func TestP1003AnySequence(t *testing.T) {
	m := sample.Maker(1003)
	list := codes(&m)
	met := map[api.Errno]int{}
	for range 4000 {
		b := someBytes(&m, list)
		r, p := wire.NewReader(b), &paper{all: slices.Clone(b)}
		for range 8 {
			next := someTurn(&m)
			if got, want := next.got(r), next.want(p); got != want {
				t.Fatalf("%s of %v: %v, want %v", next.name, b, got, want)
			}
			stands(t, next.name, r, p)
		}
		met[p.fault]++
	}
	for _, e := range []api.Errno{api.OK, api.ErrArg, api.ErrCanon, api.ErrPoint, api.ErrEnd, api.ErrNumber, api.ErrCount} {
		if met[e] == 0 {
			t.Errorf("no sequence led to %d", e)
		}
	}
}
