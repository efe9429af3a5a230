package wire_test

// P1006: lists of what a function reads.

import (
	"bytes"
	"math"
	"slices"
	"testing"

	"veil/api"
	"veil/group"
	"veil/msm"
	"veil/sample"
	"veil/scalar"
	"veil/wire"
)

func small(r *wire.Reader) uint64 { return r.Number(5) }

func TestP1006Lists(t *testing.T) {
	m := sample.Maker(1006)
	for _, n := range []int{0, 1, 2, 9, 127, 128, 300} {
		want := make([]uint64, n)
		b := writtenInt(uint64(n))
		for i := range want {
			want[i] = m.Next() >> (m.Next() % 64)
			b = append(b, writtenInt(want[i])...)
		}
		for _, most := range []int{n, n + 1, 1 << 20, 1<<20 + 1, math.MaxInt} {
			r := wire.NewReader(append(b, 77))
			got := wire.List(r, most, func(r *wire.Reader) uint64 { return r.Number(anySize) })
			if !slices.Equal(got, want) || r.Err() != api.OK || r.Left() != 1 {
				t.Errorf("List of %d, most %d: %v, %d, %d left", n, most, got, r.Err(), r.Left())
			}
		}
		r := wire.NewReader(b)
		if got := wire.List(r, n-1, small); got != nil || r.Left() != len(b) || r.Err() != api.ErrCount && n > 0 || r.Err() != api.ErrArg && n == 0 {
			t.Errorf("List of %d, most %d: %v, %d", n, n-1, got, r.Err())
		}
	}
}

func TestP1006OrderOfFaults(t *testing.T) {
	full := append(bytes.Repeat([]byte{255}, 9), 1)
	for _, c := range []struct {
		b    []byte
		most int
		one  func(r *wire.Reader) uint64
		want api.Errno
	}{
		{[]byte{128, 0}, -1, small, api.ErrArg}, {nil, math.MinInt, small, api.ErrArg}, {nil, 3, nil, api.ErrArg}, {[]byte{9, 1}, 3, nil, api.ErrArg}, {[]byte{9, 1}, -3, nil, api.ErrArg}, {[]byte{0}, 0, nil, api.ErrArg},
		{nil, 0, small, api.ErrEnd}, {[]byte{128}, 0, small, api.ErrEnd}, {[]byte{128, 0}, 0, small, api.ErrNumber}, {bytes.Repeat([]byte{255}, 10), 0, small, api.ErrNumber},
		{[]byte{1}, 0, small, api.ErrCount}, {[]byte{6, 1}, 5, small, api.ErrCount}, {full, 5, small, api.ErrCount}, {full, math.MaxInt, small, api.ErrCount},
		{writtenInt(1<<20 + 1), math.MaxInt, small, api.ErrCount}, {writtenInt(1<<20 + 1), 1<<20 + 1, small, api.ErrCount}, {writtenInt(1 << 20), 1<<20 - 1, small, api.ErrCount}, {writtenInt(1 << 32), math.MaxInt, small, api.ErrCount},
	} {
		r := wire.NewReader(c.b)
		if got := wire.List(r, c.most, c.one); got != nil || r.Err() != c.want || r.Left() != len(c.b) {
			t.Errorf("List(%d) of %v: %v, %d, want %d", c.most, c.b, got, r.Err(), c.want)
		}
		stays(t, r, c.want)
	}
}

func TestP1006MaxStream(t *testing.T) {
	for _, n := range []int{1<<20 - 1, 1 << 20} {
		r := wire.NewReader(append(writtenInt(uint64(n)), 9))
		times := 0
		list := wire.List(r, math.MaxInt, func(r *wire.Reader) int { times++; return times })
		if len(list) != n || times != n || list[n-1] != n || r.Err() != api.OK || r.Left() != 1 {
			t.Errorf("a list of %d: %d, %d calls, %d", n, len(list), times, r.Err())
		}
	}
}

// A count that is merely claimed costs nothing: such a list would fill a tebibyte.
func TestP1006ClaimedCounts(t *testing.T) {
	r := wire.NewReader(writtenInt(1 << 20))
	times := 0
	list := wire.List(r, 1<<20, func(r *wire.Reader) (x [1 << 20]byte) {
		times++
		x[0] = byte(r.Number(9))
		return x
	})
	if list != nil || times != 1 || r.Err() != api.ErrEnd || r.Left() != 0 {
		t.Errorf("%d calls, %d", times, r.Err())
	}
}

// A fault at any place of a list ends it there.
func TestP1006Faults(t *testing.T) {
	for n := 1; n < 20; n++ {
		for bad := range n {
			b := append([]byte{byte(n)}, bytes.Repeat([]byte{5}, n)...)
			b[1+bad] = 6
			r := wire.NewReader(b)
			times := 0
			list := wire.List(r, 20, func(r *wire.Reader) uint64 { times++; return r.Number(5) })
			if list != nil || times != bad+1 || r.Err() != api.ErrNumber || r.Left() != n-bad {
				t.Errorf("a fault at %d of %d: %v, %d calls, %d, %d left", bad, n, list, times, r.Err(), r.Left())
			}
			stays(t, r, api.ErrNumber)
		}
	}
}

// The function may make a fault itself, by Fail or by End, and read or not.
func TestP1006FaultsOfTheFunction(t *testing.T) {
	for _, c := range []struct {
		name string
		one  func(r *wire.Reader) int
		want api.Errno
		left int
	}{
		{"Fail", func(r *wire.Reader) int { r.Fail(api.ErrTx); return 1 }, api.ErrTx, 2},
		{"Fail behind a number", func(r *wire.Reader) int { r.Number(9); r.Fail(api.ErrTx); return 1 }, api.ErrTx, 1},
		{"Fail at the last", func(r *wire.Reader) int {
			if r.Number(9) == 4 {
				r.Fail(api.ErrFee)
			}
			return 1
		}, api.ErrFee, 0},
		{"End", func(r *wire.Reader) int { r.End(); return 1 }, api.ErrRest, 2},
	} {
		r := wire.NewReader([]byte{2, 3, 4})
		if list := wire.List(r, 2, c.one); list != nil || r.Err() != c.want || r.Left() != c.left {
			t.Errorf("%s: %v, %d, %d left", c.name, list, r.Err(), r.Left())
		}
	}
	r := wire.NewReader([]byte{2, 3, 4})
	if list := wire.List(r, 2, func(r *wire.Reader) uint64 { r.Fail(api.OK); return r.Number(4) }); !slices.Equal(list, []uint64{3, 4}) || r.End() != api.OK {
		t.Errorf("Fail(OK): %v, %d", list, r.Err())
	}
}

func TestP1006ListsOfLists(t *testing.T) {
	row := func(r *wire.Reader) []uint64 { return wire.List(r, 3, small) }
	r := wire.NewReader([]byte{4, 2, 1, 2, 0, 1, 5, 3, 3, 4, 5})
	got := wire.List(r, 4, row)
	if len(got) != 4 || !slices.Equal(got[0], []uint64{1, 2}) || len(got[1]) != 0 || !slices.Equal(got[2], []uint64{5}) || !slices.Equal(got[3], []uint64{3, 4, 5}) || r.End() != api.OK {
		t.Errorf("%v, %d", got, r.Err())
	}
	for _, c := range []struct {
		b    []byte
		want api.Errno
		left int
	}{{[]byte{2, 1, 1, 4, 1, 1, 1, 1}, api.ErrCount, 5}, {[]byte{2, 1, 1, 2, 5, 6, 1}, api.ErrNumber, 2}, {[]byte{2, 1, 1, 2, 5}, api.ErrEnd, 0}} {
		r := wire.NewReader(c.b)
		if got := wire.List(r, 4, row); got != nil || r.Err() != c.want || r.Left() != c.left {
			t.Errorf("of %v: %v, %d, %d left", c.b, got, r.Err(), r.Left())
		}
	}
}

// The reading calls themselves are functions that List takes.
func TestP1006ReadingCalls(t *testing.T) {
	one, base := scalar.Int(1).Encode(), group.Base().Encode()
	b := slices.Concat([]byte{2}, one[:], one[:], []byte{1}, base[:], []byte{1}, one[:], []byte{1}, base[:])
	r := wire.NewReader(b)
	scalars := wire.List(r, 2, (*wire.Reader).Scalar)
	points := wire.List(r, 2, wire.Point[group.Point])
	lines := wire.List(r, 2, wire.Point[msm.Line])
	bytes := wire.List(r, 2, (*wire.Reader).Bytes32)
	if !slices.Equal(scalars, []scalar.Scalar{scalar.Int(1), scalar.Int(1)}) || len(points) != 1 || !points[0].Same(group.Base()) || len(lines) != 1 || lines[0].K != scalar.Int(1) || !slices.Equal(bytes, []api.Bytes32{base}) || r.End() != api.OK {
		t.Errorf("%v, %v, %v, %v, %d", scalars, points, lines, bytes, r.Err())
	}
}

// A fault from before: the function is not called.
func TestP1006BehindAFault(t *testing.T) {
	r := wire.NewReader([]byte{1, 2, 3})
	r.Fail(api.ErrSign)
	stays(t, r, api.ErrSign)
	if r.Left() != 3 {
		t.Errorf("%d left", r.Left())
	}
}
