package wire_test

// P1002: numbers and lists of bytes are written. P1004: numbers are read.

import (
	"bytes"
	"slices"
	"testing"

	"veil/api"
	"veil/sample"
	"veil/wire"
)

// numbers: about each power of two, and others of every length.
func numbers() []uint64 {
	m := sample.Maker(1002)
	list := []uint64{0, 300, 1<<64 - 1, 1<<64 - 2}
	for i := range 64 {
		n := uint64(1) << i
		list = append(list, n-1, n, n+1, m.Next()>>i)
	}
	return list
}

func TestP1002Numbers(t *testing.T) {
	for _, front := range [][]byte{nil, {}, {9}, {128, 0, 255}, make([]byte, 40)} {
		for _, n := range numbers() {
			if got := wire.AppendNumber(front, n); !bytes.Equal(got, slices.Concat(front, writtenInt(n))) {
				t.Errorf("AppendNumber(%v, %d) = %v", front, n, got)
			}
		}
	}
}

func TestP1002Bytes(t *testing.T) {
	m := sample.Maker(10020)
	for _, front := range [][]byte{nil, {9}, {128, 0, 255}} {
		for _, n := range []int{0, 1, 2, 31, 32, 127, 128, 129, 255, 256, 300, 16383, 16384, 70000} {
			x := m.Bytes(n)
			if got := wire.AppendBytes(front, x); !bytes.Equal(got, slices.Concat(front, writtenList(x))) {
				t.Errorf("AppendBytes(%v, %d bytes) is wrong", front, n)
			}
		}
	}
}

// readsNumber: holds one Number against the paper's, and looks at what is behind it.
func readsNumber(t *testing.T, b []byte, most uint64) {
	t.Helper()
	r, p := wire.NewReader(b), &paper{all: b}
	if got, want := r.Number(most), p.number(most); got != want {
		t.Errorf("Number(%d) of %v = %d, want %d", most, b, got, want)
	}
	stands(t, "Number", r, p)
}

func TestP1004ShortNumbers(t *testing.T) {
	mosts := []uint64{0, 1, 127, 128, 16383, anySize}
	for _, most := range mosts {
		readsNumber(t, nil, most)
		for i := range 256 {
			readsNumber(t, []byte{byte(i)}, most)
			for j := range 256 {
				readsNumber(t, []byte{byte(i), byte(j)}, most)
			}
		}
	}
}

func TestP1004LongNumbers(t *testing.T) {
	edges := []byte{0, 1, 2, 127, 128, 129, 255}
	for length := range 13 {
		for _, first := range []byte{128, 129, 255} {
			b := bytes.Repeat([]byte{first}, length)
			for _, c := range edges {
				for _, d := range edges {
					for _, e := range edges {
						for _, most := range []uint64{0, 1<<63 - 1, 1 << 63, anySize} {
							readsNumber(t, slices.Concat(b, []byte{c, d, e}), most)
						}
					}
				}
			}
		}
	}
}

func TestP1004CutOff(t *testing.T) {
	for _, n := range numbers() {
		b := writtenInt(n)
		for i := range b {
			r := wire.NewReader(b[:i])
			if got := r.Number(anySize); got != 0 || r.Err() != api.ErrEnd || r.Left() != i {
				t.Errorf("Number of %v = %d, %d", b[:i], got, r.Err())
			}
		}
	}
}

func TestP1004Most(t *testing.T) {
	for _, n := range numbers() {
		b := append(writtenInt(n), 7)
		for _, most := range []uint64{0, n - 1, n, n + 1, n / 2, anySize} {
			readsNumber(t, b, most)
		}
		r := wire.NewReader(b)
		if got := r.Number(n); got != n || r.Err() != api.OK || r.Left() != 1 {
			t.Errorf("Number(%d) of %v = %d, %d, %d left", n, b, got, r.Err(), r.Left())
		}
		if r = wire.NewReader(b); n > 0 && (r.Number(n-1) != 0 || r.Err() != api.ErrNumber || r.Left() != len(b)) {
			t.Errorf("Number(%d) of %v: %d, %d left", n-1, b, r.Err(), r.Left())
		}
	}
}

// A number that is wrongly written and too great has one fault, whatever most is.
func TestP1004OneFault(t *testing.T) {
	for _, b := range [][]byte{{128, 0}, {255, 128, 0}, append(bytes.Repeat([]byte{128}, 9), 0), append(bytes.Repeat([]byte{255}, 9), 2), bytes.Repeat([]byte{128}, 10), bytes.Repeat([]byte{255}, 11)} {
		for _, most := range []uint64{0, 1, anySize} {
			r := wire.NewReader(b)
			if r.Number(most) != 0 || r.Err() != api.ErrNumber || r.Left() != len(b) {
				t.Errorf("Number(%d) of %v: %d, %d left", most, b, r.Err(), r.Left())
			}
			stays(t, r, api.ErrNumber)
		}
	}
}
