package scalar_test

import (
	"math"
	"math/big"
	"testing"

	"veil/api"
	"veil/sample"
	"veil/scalar"
)

func TestP202Least(t *testing.T) {
	for _, a := range append(scalars(2000), nearL()...) {
		check(t, a.Least(), whole(a), "%v.Least()", a)
	}
	places := []uint64{0, 1, primeOf[0] - 1, primeOf[0], primeOf[1], 1<<60 - 1, 1 << 60, 15 << 60, maxLimb}
	n := len(places)
	for i := range n * n * n * n {
		a := scalar.Scalar{places[i%n], places[i/n%n], places[i/n/n%n], places[i/n/n/n]}
		check(t, a.Least(), whole(a), "%v.Least()", a)
	}
}

func TestP202Int(t *testing.T) {
	for _, n := range []uint64{0, 1, 19, primeOf[0], 1 << 60, 1 << 63, maxLimb} {
		check(t, scalar.Int(n), new(big.Int).SetUint64(n), "Int(%d)", n)
	}
}

func TestP202Encode(t *testing.T) {
	for _, a := range append(scalars(500), nearL()...) {
		if b := a.Encode(); b != sample.Bytes32(number(a)) {
			t.Errorf("%v.Encode() = %x", a, b)
		}
	}
}

// decodes: Decode and Reduce of the bytes of one number; P209: OK just if Encode of Reduce is these bytes.
func decodes(t *testing.T, n *big.Int) {
	t.Helper()
	b := sample.Bytes32(n)
	a, e := scalar.Decode(b)
	reduced := scalar.Reduce(b)
	check(t, reduced, n, "Reduce(%x)", b)
	if back := reduced.Encode() == b; back != (e == api.OK) || back != (n.Cmp(l) < 0) {
		t.Errorf("Decode(%x): error %d", b, e)
	}
	if e == api.OK && a != limbs(n) || e != api.OK && (e != api.ErrCanon || a != (scalar.Scalar{})) {
		t.Errorf("Decode(%x) = %v, error %d", b, a, e)
	}
}

func TestP202DecodeReduce(t *testing.T) {
	for _, a := range append(nearL(), edges()...) {
		decodes(t, whole(a))
	}
	for bit := range uint(256) {
		decodes(t, sample.Power2(bit))
		decodes(t, new(big.Int).Sub(sample.Power2(bit+1), big1))
		decodes(t, new(big.Int).Xor(l, sample.Power2(bit)))
	}
	m := sample.Maker(4)
	for range 500 {
		b := m.Bytes32()
		decodes(t, sample.Number(b[:]))
		b[31] &= 0x1f
		decodes(t, sample.Number(b[:]))
	}
}

func TestP202Wide(t *testing.T) {
	wide := func(n *big.Int) {
		b := api.Bytes64(sample.Bytes(n, 64))
		got := scalar.Wide(b)
		check(t, got, n, "Wide(%x)", b)
		low, high := scalar.Reduce(api.Bytes32(b[:32])), scalar.Reduce(api.Bytes32(b[32:]))
		two := scalar.Int(2)
		for range 256 {
			high = high.Mul(two)
		}
		if got != low.Add(high) {
			t.Errorf("Wide(%x) is not made of its halves", b)
		}
	}
	for bit := range uint(512) {
		wide(sample.Power2(bit))
		wide(new(big.Int).Sub(sample.Power2(bit+1), big1))
	}
	for _, times := range []*big.Int{new(big.Int), big1, l, sample.Power2(256), new(big.Int).Div(sample.Power2(512), l)} {
		for _, off := range []int64{0, 1, 2} {
			wide(new(big.Int).Add(new(big.Int).Mul(l, times), big.NewInt(off)))
		}
	}
	m := sample.Maker(5)
	for range 500 {
		wide(sample.Number(m.Bytes(64)))
	}
}

func TestP208Tape(t *testing.T) {
	m := sample.Maker(6)
	stream := m.Bytes(64*api.MaxVector + 7)
	for _, n := range []int{0, 1, 2, 3, 100, api.MaxVector - 1, api.MaxVector} {
		for _, rest := range []int{0, 1, 7} {
			list, e := scalar.Tape(stream[:64*n+rest], n)
			if e != api.OK || len(list) != n {
				t.Fatalf("Tape of %d bytes, %d: %d scalars, error %d", 64*n+rest, n, len(list), e)
			}
			for i, a := range list {
				check(t, a, sample.Number(stream[64*i:64*i+64]), "Tape, place %d", i)
				if a != scalar.Wide(api.Bytes64(stream[64*i:])) {
					t.Errorf("Tape, place %d: not Wide's", i)
				}
			}
		}
	}
}

func TestP208WrongTape(t *testing.T) {
	stream := make([]byte, 64*(api.MaxVector+1))
	for _, c := range []struct {
		bytes, n int
		want     api.Errno
	}{
		{len(stream), -1, api.ErrArg}, {0, -1, api.ErrArg}, {len(stream), math.MinInt, api.ErrArg},
		{len(stream), api.MaxVector + 1, api.ErrArg}, {0, api.MaxVector + 1, api.ErrArg}, {0, math.MaxInt, api.ErrArg}, {len(stream), 1 << 58, api.ErrArg},
		{0, 1, api.ErrShort}, {63, 1, api.ErrShort}, {64, 2, api.ErrShort}, {127, 2, api.ErrShort}, {128, 3, api.ErrShort}, {64*api.MaxVector - 1, api.MaxVector, api.ErrShort},
	} {
		if list, e := scalar.Tape(stream[:c.bytes], c.n); e != c.want || len(list) != 0 {
			t.Errorf("Tape of %d bytes, %d: %d scalars, error %d, want %d", c.bytes, c.n, len(list), e, c.want)
		}
	}
	if list, e := scalar.Tape(nil, 0); e != api.OK || len(list) != 0 {
		t.Errorf("Tape(nil, 0) = %v, error %d", list, e)
	}
}

func TestP209OneEncoding(t *testing.T) {
	for _, a := range append(scalars(200), nearL()...) {
		if back, e := scalar.Decode(a.Encode()); e != api.OK || back != a.Least() {
			t.Errorf("Decode of %v.Encode() = %v, error %d", a, back, e)
		}
	}
}
