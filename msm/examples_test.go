package msm_test

// The examples of the chapter, by their numbers.

import (
	"crypto/sha512"
	"testing"

	"veil/api"
	"veil/msm"
	"veil/sample"
	"veil/scalar"
)

// line, small, term: of small numbers.
func line(n uint64) msm.Line { return msm.Line{K: scalar.Int(n)} }

func term(k, n uint64) msm.Term[msm.Line] { return msm.Term[msm.Line]{K: scalar.Int(k), P: line(n)} }

func small(ns ...int64) msm.Free {
	a := msm.Free{}
	for _, n := range sample.Small(ns...) {
		a.K = append(a.K, sample.Scalar(n))
	}
	return a
}

func TestExample1Sums(t *testing.T) {
	if sum, cost := msm.Sum[msm.Line](); sum != (msm.Line{}) || cost != (msm.Cost{Adds: 0, Doubles: 0}) {
		t.Errorf("Sum(): %v, cost %v", sum, cost)
	}
	if sum := msm.Plain(term(2, 3), term(5, 7)); sum != line(41) {
		t.Errorf("Plain: %v, want 41", sum)
	}
	for _, w := range []int{0, 9} {
		if _, _, e := msm.Straus(w, term(2, 3), term(5, 7)); e != api.ErrArg {
			t.Errorf("Straus(%d): error %d", w, e)
		}
	}
	if _, _, e := msm.Pippenger(13, term(2, 3)); e != api.ErrArg {
		t.Errorf("Pippenger(13): error %d", e)
	}
}

func TestExample2Bound(t *testing.T) {
	for n, want := range map[int]int{0: 1419, -1: 0, 8193: 0} {
		if msm.Bound(n) != want {
			t.Errorf("Bound(%d) = %d, want %d", n, msm.Bound(n), want)
		}
	}
}

func TestExample3Free(t *testing.T) {
	if !small(1, 2, 0).Same(small(1, 2)) {
		t.Errorf("a zero at the end makes another element")
	}
	leastList(t, "1, 2, 0 plus 1, 2", small(1, 2, 0).Add(small(1, 2)), sample.Small(2, 4))
	leastList(t, "1, 2 plus -1, 5", small(1, 2).Add(small(-1, 5)), sample.Small(0, 7))
	none := small(1).Add(small(1).Neg())
	leastList(t, "1 minus itself", none, nil)
	if !none.Same(msm.Free{}) {
		t.Errorf("1 minus itself is not neutral")
	}
	want := sha512.Sum512([]byte("free"))
	if got := (msm.Free{}).Encode(); string(got[:]) != string(want[:32]) {
		t.Errorf("Encode of the zero value: %x", got)
	}
}

func TestExample4Decode(t *testing.T) {
	if got, e := line(3).Decode(sample.Bytes32(sample.L())); e != api.ErrCanon || got != (msm.Line{}) {
		t.Errorf("Line.Decode of l: %v, error %d", got, e)
	}
	if got, e := small(3).Decode(small(3).Encode()); e != api.ErrPoint || len(got.K) != 0 {
		t.Errorf("Free.Decode: %v, error %d", got, e)
	}
}

func TestExample5Zip(t *testing.T) {
	if terms, e := msm.Zip(make([]scalar.Scalar, 2), make([]msm.Line, 3)); e != api.ErrLength || len(terms) != 0 {
		t.Errorf("Zip of two and three: %v, error %d", terms, e)
	}
	if terms, e := msm.Zip[msm.Line](nil, nil); e != api.OK || len(terms) != 0 {
		t.Errorf("Zip(nil, nil): %v, error %d", terms, e)
	}
}
