package scalar_test

// The chapter's examples, by their numbers.

import (
	"encoding/hex"
	"math/big"
	"slices"
	"testing"

	"veil/api"
	"veil/sample"
	"veil/scalar"
)

func fromHex(t *testing.T, s string) api.Bytes32 {
	t.Helper()
	b, err := hex.DecodeString(s)
	if err != nil || len(b) != 32 {
		t.Fatalf("no 32 bytes: %s", s)
	}
	return api.Bytes32(b)
}

func TestExample1L(t *testing.T) {
	if !primeOf.IsZero() || primeOf.Least() != (scalar.Scalar{}) || primeOf.Encode() != (api.Bytes32{}) {
		t.Errorf("l: %v, %v, %x", primeOf.IsZero(), primeOf.Least(), primeOf.Encode())
	}
	b := fromHex(t, "edd3f55c1a631258d69cf7a2def9de1400000000000000000000000000000010")
	if b != sample.Bytes32(l) {
		t.Fatalf("the tests' l is another one: %v", l)
	}
	if a, e := scalar.Decode(b); e != api.ErrCanon || a != (scalar.Scalar{}) {
		t.Errorf("Decode of l: %v, error %d", a, e)
	}
	b[0]--
	a, e := scalar.Decode(b)
	if e != api.OK || !a.Add(scalar.Int(1)).IsZero() || a != scalar.Int(1).Neg() {
		t.Errorf("Decode of l - 1: %v, error %d", a, e)
	}
	b[0] += 2
	if one := scalar.Reduce(b); one != scalar.Int(1) {
		t.Errorf("Reduce of l + 1: %v", one)
	}
}

func TestExample2FullBytes(t *testing.T) {
	b := full256()
	if a, e := scalar.Decode(b); e != api.ErrCanon || a != (scalar.Scalar{}) {
		t.Errorf("Decode: %v, error %d", a, e)
	}
	if got := scalar.Reduce(b).Encode(); got != fromHex(t, "1c95988d7431ecd670cf7d73f45befc6feffffffffffffffffffffffffffff0f") {
		t.Errorf("Reduce: %x", got)
	}
}

// full256: 32 bytes ff.
func full256() api.Bytes32 {
	return sample.Bytes32(new(big.Int).Sub(sample.Power2(256), big1))
}

func TestExample3InvertPower(t *testing.T) {
	if got := scalar.Int(2).Invert().Encode(); got != fromHex(t, "f7e97a2e8d31092c6bce7b51ef7c6f0a00000000000000000000000000000008") {
		t.Errorf("1 / 2: %x", got)
	}
	zero := scalar.Scalar{}
	check(t, zero.Invert(), new(big.Int), "1 / 0")
	check(t, zero.Power(0), big1, "0^0")
	check(t, primeOf.Power(0), big1, "l^0")
	check(t, zero.Power(5), new(big.Int), "0^5")
}

// begins: these digits, and zeros behind them, so many in all.
func begins(t *testing.T, what string, got []int, e api.Errno, count int, first ...int) {
	t.Helper()
	want := append(slices.Clone(first), make([]int, count-len(first))...)
	if e != api.OK || !slices.Equal(got, want) {
		t.Errorf("%s: %v, error %d, want %v", what, got, e, want)
	}
}

func TestExample4Digits(t *testing.T) {
	for _, c := range []struct {
		n, w, count int
		first       []int
	}{
		{5, 1, 254, []int{1, 0, 1}},
		{3, 2, 127, []int{-1, 1}},
		{8, 4, 64, []int{8}},
		{9, 4, 64, []int{-7, 1}},
		{0, 12, 22, nil},
	} {
		got, e := scalar.Int(uint64(c.n)).Digits(c.w)
		begins(t, "Digits", got, e, c.count, c.first...)
	}
}

func TestExample5Naf(t *testing.T) {
	for _, c := range []struct {
		n, w  int
		first []int
	}{
		{7, 2, []int{-1, 0, 0, 1}},
		{3, 2, []int{-1, 0, 1}},
		{7, 3, []int{-1, 0, 0, 1}},
		{3, 3, []int{3}},
		{5, 3, []int{-3, 0, 0, 1}},
		{7, 4, []int{7}},
	} {
		got, e := scalar.Int(uint64(c.n)).Naf(c.w)
		begins(t, "Naf", got, e, 254, c.first...)
	}
	if got, e := scalar.Int(1).Neg().Naf(2); e != api.OK || got[252] != 1 || got[253] != 0 {
		t.Errorf("Naf(2) of l - 1: %v, error %d", got, e)
	}
}

func TestExample6InvertAll(t *testing.T) {
	got := scalar.InvertAll(scalar.Int(0), scalar.Int(1), scalar.Int(2))
	if want := []scalar.Scalar{{}, {1}, scalar.Int(2).Invert()}; !slices.Equal(got, want) {
		t.Errorf("InvertAll(0, 1, 2) = %v", got)
	}
	if none := scalar.InvertAll(); len(none) != 0 {
		t.Errorf("InvertAll() = %v", none)
	}
}

func TestExample7Tape(t *testing.T) {
	stream := make([]byte, 128)
	stream[0], stream[64] = 1, 2
	got, e := scalar.Tape(stream, 2)
	if e != api.OK || !slices.Equal(got, []scalar.Scalar{{1}, {2}}) {
		t.Errorf("Tape = %v, error %d", got, e)
	}
	for n, want := range map[int]api.Errno{3: api.ErrShort, -1: api.ErrArg, 4097: api.ErrArg, 0: api.OK} {
		if got, e := scalar.Tape(stream, n); e != want || len(got) != 0 {
			t.Errorf("Tape(.., %d) = %v, error %d", n, got, e)
		}
	}
}

func TestExample8BitSelect(t *testing.T) {
	less := scalar.Int(1).Neg()
	if less.Bit(252) != 1 || less.Bit(253) != 0 || less.Bit(-1) != 0 {
		t.Errorf("Bit of l - 1: %d, %d, %d", less.Bit(252), less.Bit(253), less.Bit(-1))
	}
	a, b := scalar.Int(3), scalar.Int(4)
	if scalar.Select(-1, a, b) != a || scalar.Select(2, a, b) != b {
		t.Errorf("Select: %v, %v", scalar.Select(-1, a, b), scalar.Select(2, a, b))
	}
}
