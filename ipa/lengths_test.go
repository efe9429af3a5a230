package ipa_test

// Lists of wrong lengths, nil Oracles, and which error comes first.

import (
	"math"
	"testing"

	"veil/api"
	"veil/ipa"
	"veil/msm"
	"veil/scalar"
	"veil/transcript"
)

// noSizes: lengths that are no size.
func noSizes() []int { return []int{0, 3, 5, 6, 7, 9, 12, 1000, 1023, 1025, 1536, 2048, 4096} }

func some(count int) []scalar.Scalar {
	list := make([]scalar.Scalar, count)
	for i := range list {
		list[i] = scalar.Int(3)
	}
	return list
}

func someLines(count int) []msm.Line {
	list := make([]msm.Line, count)
	for i := range list {
		list[i] = line(4)
	}
	return list
}

// refused: Prove must answer ErrLength and say nothing; but ErrArg without an Oracle.
func refused(t *testing.T, g, h, a, b int) {
	t.Helper()
	o := transcript.New("nothing")
	x, e := ipa.Prove(line(5), someLines(g), someLines(h), some(a), some(b), o)
	noArgument(t, "Prove", x, e, api.ErrLength)
	if o.State() != transcript.New("nothing").State() {
		t.Error("Prove has said something")
	}
	x, e = ipa.Prove(line(5), someLines(g), someLines(h), some(a), some(b), nil)
	noArgument(t, "Prove without an Oracle", x, e, api.ErrArg)
}

func TestP1202Lengths(t *testing.T) {
	for _, n := range noSizes() {
		refused(t, n, n, n, n)
	}
	for _, n := range []int{1, 2, 4, 1024} {
		for _, other := range []int{0, n - 1, n + 1, n / 2, 2 * n} {
			if other != n {
				refused(t, other, n, n, n)
				refused(t, n, other, n, n)
				refused(t, n, n, other, n)
				refused(t, n, n, n, other)
				refused(t, n, n, other, other)
				refused(t, n, other, n, other)
			}
		}
		x, e := ipa.Prove(line(5), someLines(n), someLines(n), some(n), some(n), nil)
		noArgument(t, "Prove without an Oracle", x, e, api.ErrArg)
	}
}

func TestP1203Lengths(t *testing.T) {
	ask := func(n, l, r int, want api.Errno) {
		t.Helper()
		o := &oracle{list: some(20)}
		us, e := ipa.Challenges(n, ipa.Argument[msm.Line]{L: someLines(l), R: someLines(r)}, o)
		if want != api.OK {
			noList(t, "Challenges", us, e, want)
			heard(t, "Challenges", o.heard)
		} else if e != api.OK || len(us) != l {
			t.Errorf("Challenges(%d) = %v, %d", n, us, e)
		}
		us, e = ipa.Challenges(n, ipa.Argument[msm.Line]{L: someLines(l), R: someLines(r)}, nil)
		noList(t, "Challenges without an Oracle", us, e, api.ErrArg)
	}
	for _, n := range append(noSizes(), -1, -2, -1024, math.MinInt, math.MaxInt, 1<<62) {
		for k := range 13 {
			ask(n, k, k, api.ErrLength)
		}
	}
	for k := range 11 {
		for l := range 13 {
			for r := range 13 {
				ask(1<<k, l, r, right(l == k && r == k, api.ErrLength))
			}
		}
	}
}

// fits: what Rounds, Verify and Terms must answer of lists of these lengths, first with no challenge 0, then with one that is. All elements are neutral, so what is said comes out.
func fits(t *testing.T, g, h, l, r, us int, want api.Errno) {
	t.Helper()
	s := ipa.Statement[msm.Line]{G: make([]msm.Line, g), H: make([]msm.Line, h)}
	x := ipa.Argument[msm.Line]{L: make([]msm.Line, l), R: make([]msm.Line, r)}
	check := func(list []scalar.Scalar, want api.Errno) {
		t.Helper()
		errno(t, "Verify", ipa.Verify(s, x, list), want)
		terms, e := ipa.Terms(s, x, list)
		if want != api.OK {
			noList(t, "Terms", terms, e, want)
		} else {
			errno(t, "Terms", e, want)
		}
		count := 0
		for range ipa.Rounds(s, x, list) {
			count++
		}
		if ok := want == api.OK; ok && count != us+1 || !ok && count != 0 {
			t.Errorf("Rounds: %d statements, with the error %d", count, want)
		}
	}
	check(some(us), want)
	for place := range us {
		for _, zero := range zeros()[:2] {
			list := some(us)
			list[place] = zero
			check(list, first(want, api.ErrZero))
		}
	}
}

func TestP1204P1205ArgumentsThatDoNotFit(t *testing.T) {
	for k := range 4 {
		n := 1 << k
		for code := range 125 {
			l, r, us := code%5, code/5%5, code/25
			fits(t, n, n, l, r, us, right(l == k && r == k && us == k, api.ErrLength))
		}
		for _, other := range []int{0, n - 1, n + 1, n / 2, 2 * n} {
			if other != n {
				fits(t, n, other, k, k, k, api.ErrLength)
				fits(t, other, n, k, k, k, api.ErrLength)
			}
		}
	}
	for _, n := range noSizes() {
		for _, k := range []int{0, 1, 2, 3, 9, 10, 11} {
			fits(t, n, n, k, k, k, api.ErrLength)
		}
	}
	fits(t, 1024, 1024, 10, 10, 10, api.OK)
	fits(t, 1024, 1024, 10, 10, 9, api.ErrLength)
	fits(t, 1024, 1024, 9, 10, 10, api.ErrLength)
	fits(t, 1024, 1024, 10, 11, 10, api.ErrLength)
}

func TestP1205WeightsErrors(t *testing.T) {
	for count := range 14 {
		us := some(count)
		w, e := ipa.Weights(us)
		if count <= 10 {
			errno(t, "Weights", e, api.OK)
			if len(w) != 1<<count {
				t.Errorf("%d weights of %d challenges", len(w), count)
			}
		} else {
			noList(t, "Weights", w, e, api.ErrLength)
		}
		for place := range us {
			for _, zero := range zeros() {
				us := some(count)
				us[place] = zero
				w, e := ipa.Weights(us)
				noList(t, "Weights with a 0", w, e, first(right(count <= 10, api.ErrLength), api.ErrZero))
			}
		}
	}
}
