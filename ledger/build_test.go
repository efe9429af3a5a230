package ledger_test

// P1802: building.

import (
	"bytes"
	"fmt"
	"math/bits"
	"slices"
	"testing"

	"veil/api"
	"veil/hash"
	"veil/ledger"
	"veil/sample"
	"veil/scalar"
)

// allBits: all that rules may have.
var allBits = []int{1, 2, 4, 8, 16, 32, 64}

// isBuilt: Build's answer is held byte for byte against the document's words, and CheckTx takes it.
func isBuilt(t testing.TB, what string, r ledger.Rules, in, out []ledger.Coin, fee uint64, stream []byte) []byte {
	t.Helper()
	d := deal{r, 1, 0, in, out, fee, stream}
	tx, key, e := ledger.Build(r, in, out, fee, stream)
	errno(t, what, e, api.OK)
	if want := d.paper(t).bytes(); !bytes.Equal(tx, want) {
		t.Errorf("%s: %d bytes that are not the %d that they must be", what, len(tx), len(want))
	}
	if key != d.key() {
		t.Errorf("%s: the key is %v, want %v", what, key, d.key())
	}
	errno(t, what+": CheckTx", ledger.CheckTx(r, tx), api.OK)
	return tx
}

// isRefused: there is an error, and nothing beside it.
func isRefused(t testing.TB, what string, want api.Errno, r ledger.Rules, in, out []ledger.Coin, fee uint64, stream []byte) {
	t.Helper()
	tx, key, e := ledger.Build(r, in, out, fee, stream)
	errno(t, what, e, want)
	if len(tx) != 0 || key != (scalar.Scalar{}) {
		t.Errorf("%s: %d bytes and the key %v beside an error", what, len(tx), key)
	}
}

// payment: coins of any blindings that come out even: values of out below 2^most, and a fee; the last one of in makes up for the rest.
func payment(m *sample.Maker, most, ins, outs int) (in, out []ledger.Coin, fee uint64) {
	// Not m.Number: 0 and 1 come up often there, and no two coins may be the same.
	any := func(v uint64) ledger.Coin {
		return ledger.Coin{V: v, Blind: m.Limbs(sample.Mod(sample.Number(m.Bytes(40))))}
	}
	var sum uint64
	for range outs {
		v := m.Next() >> (64 - most)
		if most == 64 {
			v >>= 8 // so that the sum is below 2^64
		}
		sum += v
		out = append(out, any(v))
	}
	for range ins {
		v := sum
		if len(in) < ins-1 {
			v = m.Next() % (sum + 1)
		}
		sum -= v
		in = append(in, any(v))
	}
	if ins > 0 {
		fee = m.Next() >> (m.Next()%56 + 8)
		in[0].V += fee
	}
	return in, out, fee
}

func TestP1802ByTheWords(t *testing.T) {
	t.Parallel()
	m := sample.Maker(1802)
	for _, n := range allBits {
		r := ledger.Rules{Bits: n, Reward: m.Next() % (1<<32 + 1)}
		for _, c := range [][2]int{{1, 1}, {2, 3}, {5, 2}} {
			in, out, fee := payment(&m, n, c[0], c[1])
			isBuilt(t, fmt.Sprint(n, " bits, ", c), r, in, out, fee, m.Bytes(wanted(n, c[1])))
		}
	}
}

// Any number of inputs and outputs that there may be, and those beyond.
func TestP1802Counts(t *testing.T) {
	t.Parallel()
	m := sample.Maker(18020)
	r := ledger.Rules{Bits: 1, Reward: 1}
	for _, c := range [][2]int{{0, 1}, {16, 1}, {1, 16}, {16, 16}, {15, 2}, {0, 16}, {3, 15}} {
		in, out, fee := payment(&m, 1, c[0], c[1])
		for i := range out { // without inputs there is nothing to be paid
			if c[0] == 0 {
				out[i].V = 0
			}
		}
		isBuilt(t, fmt.Sprint(c), r, in, out, fee, m.Bytes(wanted(1, c[1])))
	}
	for _, c := range [][2]int{{17, 1}, {1, 0}, {0, 0}, {1, 17}, {17, 17}, {16, 17}, {17, 16}, {17, 0}, {1000, 1}, {1, 1000}} {
		in, out, fee := payment(&m, 1, c[0], c[1])
		isRefused(t, fmt.Sprint(c), api.ErrLength, r, in, out, fee, m.Bytes(wanted(1, c[1])))
	}
}

// Values at 2^Bits - 1 and at 2^Bits.
func TestP1802Values(t *testing.T) {
	t.Parallel()
	for _, n := range allBits {
		r, top := ledger.Rules{Bits: n}, uint64(1)<<n // of 64 bits 0: there is none
		isBuilt(t, fmt.Sprint("the greatest of ", n, " bits"), r, coins(top-1, 5, 1, 6), coins(top-1, 1, 1, 2), 0, stream(r, "a", 2))
		if n == 64 {
			continue
		}
		for _, v := range []uint64{top, top + 1, 1<<64 - 1} {
			for place := range 3 {
				out := coins(0, 1, 0, 2, 0, 3)
				out[place].V = v
				isRefused(t, fmt.Sprint(v, " of ", n, " bits"), api.ErrValue, r, coins(v, 5), out, 0, stream(r, "a", 3))
			}
		}
	}
}

// Inputs' values may be of any size, and fees of up to 2^63 - 1.
func TestP1802Fees(t *testing.T) {
	t.Parallel()
	r := ledger.Rules{Bits: 2}
	for _, fee := range []uint64{0, 1, 127, 128, 1<<62 - 1, 1<<63 - 1} {
		isBuilt(t, fmt.Sprint("the fee ", fee), r, coins(fee+3, 5), coins(3, 1), fee, stream(r, "a", 1))
	}
	for _, fee := range []uint64{1 << 63, 1<<63 + 1, 1<<64 - 1} {
		isRefused(t, fmt.Sprint("the fee ", fee), api.ErrFee, r, coins(fee, 5), coins(0, 1), fee, stream(r, "a", 1))
	}
}

// Sums count as integers, not modulo 2^64.
func TestP1802GreatSums(t *testing.T) {
	t.Parallel()
	const half, full = 1 << 63, 1<<64 - 1
	r := ledger.Rules{Bits: 64}
	isBuilt(t, "twice 2^64 - 1", r, coins(full, 1, full, 2), coins(full, 3, full, 4), 0, stream(r, "a", 2))
	isBuilt(t, "2^64 - 1 and a fee", r, coins(half, 1, half, 2), coins(full, 3), 1, stream(r, "a", 1))
	isBuilt(t, "2^64 of small ones", r, coins(full, 1, 1, 2), coins(half, 3, half-1, 4), 1, stream(r, "a", 2))
	sixteen := make([]ledger.Coin, 16)
	for i := range sixteen {
		sixteen[i] = coin(full, uint64(i))
	}
	for _, c := range []struct {
		what    string
		in, out []ledger.Coin
		fee     uint64
	}{
		{"2^64 for nothing", coins(half, 1, half, 2), coins(0, 3), 0},
		{"nothing for 2^64", nil, coins(half, 1, half, 2), 0},
		{"nothing for 2^64 - 1 and a fee", nil, coins(full, 1), 1},
		{"2^64 for a fee", coins(half, 1, half, 2, 5, 3), coins(0, 3), 5},
		{"2^65 for 2^64", coins(half, 1, half, 2, half, 3, half, 4), coins(half, 5, half, 6), 0},
		{"sixteen for fifteen", sixteen, append(slices.Clone(sixteen[:14]), coin(full-1, 99)), 0},
		{"one too many", coins(10, 1), coins(9, 2), 0},
		{"one too few", coins(10, 1), coins(11, 2), 0},
		{"the fee on the other side", coins(10, 1), coins(11, 2), 1},
	} {
		isRefused(t, c.what, api.ErrBalance, r, c.in, c.out, c.fee, stream(r, "a", 16))
	}
}

// Two coins with one commitment, by whatever limbs of the blinding.
func TestP1802SameCommitments(t *testing.T) {
	t.Parallel()
	r := ledger.Rules{Bits: 4}
	for _, look := range sample.Scalars(sample.NumberOf(scalar.Int(5))) {
		twin := ledger.Coin{V: 3, Blind: look}
		isRefused(t, "twice in", api.ErrTx, r, []ledger.Coin{coin(3, 5), coin(1, 6), twin}, coins(7, 1), 0, stream(r, "a", 1))
		isRefused(t, "twice in, side by side", api.ErrTx, r, []ledger.Coin{coin(3, 5), twin}, coins(6, 1), 0, stream(r, "a", 1))
		isRefused(t, "twice out", api.ErrTx, r, coins(7, 1), []ledger.Coin{coin(3, 5), coin(1, 6), twin}, 0, stream(r, "a", 3))
		isRefused(t, "twice in and twice out", api.ErrTx, r, []ledger.Coin{coin(3, 5), twin}, []ledger.Coin{twin, coin(3, 5)}, 0, stream(r, "a", 2))
		isBuilt(t, "in and out", r, []ledger.Coin{coin(3, 5)}, []ledger.Coin{twin}, 0, stream(r, "a", 1))
	}
	isBuilt(t, "one value, two blindings", r, coins(3, 5, 3, 6), coins(3, 7, 3, 8), 0, stream(r, "a", 2))
	isBuilt(t, "one blinding, two values", r, coins(3, 5, 4, 5), coins(1, 5, 6, 5), 0, stream(r, "a", 2))
}

// The stream: one byte too few, and more than is wanted.
func TestP1802Streams(t *testing.T) {
	t.Parallel()
	for _, n := range []int{1, 8} {
		r := ledger.Rules{Bits: n}
		for outs := 1; outs <= 3; outs++ {
			out := coins(0, 1, 1, 2, 1, 3)[:outs]
			in := coins(uint64(outs-1), 9)
			want := stream(r, "a", outs)
			tx := isBuilt(t, "as many as are wanted", r, in, out, 0, want)
			other, _, _ := ledger.Build(r, in, out, 0, append(slices.Clone(want), 1, 2, 3))
			if !bytes.Equal(tx, other) {
				t.Errorf("what lies behind the stream counts")
			}
			for _, size := range []int{len(want) - 1, len(want) - 64, 64, 1, 0} {
				isRefused(t, fmt.Sprint(size, " bytes for ", outs), api.ErrShort, r, in, out, 0, want[:size])
			}
			isRefused(t, "no stream", api.ErrShort, r, in, out, 0, nil)
		}
	}
}

// In which order coins come, and by which limbs, does not matter.
func TestP1802OrderAndLimbs(t *testing.T) {
	t.Parallel()
	m := sample.Maker(18021)
	r := ledger.Rules{Bits: 2}
	in, out, fee := payment(&m, 2, 4, 3)
	s := m.Bytes(wanted(2, 3))
	tx := isBuilt(t, "as they come", r, in, out, fee, s)
	for range 6 {
		for _, list := range [][]ledger.Coin{in, out} {
			for i := range list {
				j := m.Next() % uint64(len(list))
				list[i], list[j] = list[j], list[i]
				list[i].Blind = m.Limbs(sample.NumberOf(list[i].Blind))
			}
		}
		if other := isBuilt(t, "in another order", r, in, out, fee, s); !bytes.Equal(other, tx) {
			t.Errorf("in another order there is another transaction")
		}
	}
}

// Keys and blindings of 0, and streams of zeros: the excess may be neutral.
func TestP1802Zeros(t *testing.T) {
	t.Parallel()
	r := ledger.Rules{Bits: 4}
	zeros := make([]byte, wanted(4, 2))
	isBuilt(t, "the key 0", r, coins(5, 7), coins(2, 3, 3, 4), 0, stream(r, "a", 2))
	isBuilt(t, "no blinding", r, coins(5, 0), coins(5, 0), 0, stream(r, "a", 1))
	isBuilt(t, "nothing", r, nil, coins(0, 0), 0, stream(r, "a", 1))
	isBuilt(t, "nothing, and a stream of zeros", r, nil, coins(0, 0), 0, zeros)
	isBuilt(t, "a stream of zeros", r, coins(5, 7), coins(2, 3, 3, 4), 0, zeros)
}

// Of several errors the one named first: all ways in which the seven can come together.
func TestP1802OrderOfErrors(t *testing.T) {
	t.Parallel()
	in, out := coins(20, 11, 30, 12), coins(15, 1, 34, 2)
	for way := range 1 << 7 {
		r, in, out, fee := eight, slices.Clone(in), slices.Clone(out), uint64(1)
		wrong := func(place int) bool { return way>>place&1 == 1 }
		if wrong(0) {
			r = []ledger.Rules{{Bits: 3, Reward: 50}, {Bits: 8, Reward: 1<<32 + 1}}[bits.OnesCount(uint(way))%2]
		}
		if wrong(2) {
			out[0].V, in[0].V = 256, 20+256-15
		}
		if wrong(3) {
			fee, in[1].V = 1<<63, 30+1<<63-1
		}
		if wrong(4) {
			in = append(in, in[0])
			in[0].V, in[2].V = in[0].V/2, in[0].V/2
		}
		if wrong(5) {
			in[1].V++
		}
		s := stream(eight, "a", len(out))
		if wrong(1) {
			for len(in) < 17 {
				in = append(in, coin(0, uint64(100+len(in))))
			}
		}
		if wrong(6) {
			s = s[1:]
		}
		errors := []api.Errno{api.ErrParams, api.ErrLength, api.ErrValue, api.ErrFee, api.ErrTx, api.ErrBalance, api.ErrShort}
		if way == 0 {
			isBuilt(t, "nothing wrong", r, in, out, fee, s)
			continue
		}
		isRefused(t, fmt.Sprintf("wrong: %07b", way), errors[bits.TrailingZeros(uint(way))], r, in, out, fee, s)
	}
}

// Rules that do not stand are the first fault, whatever the rest is.
func TestP1802Rules(t *testing.T) {
	t.Parallel()
	for _, r := range badRules() {
		isRefused(t, fmt.Sprint(r), api.ErrParams, r, coins(1, 2), coins(1, 3), 0, hash.Stretch([]byte("a"), 1<<20))
		isRefused(t, fmt.Sprint(r, " and nothing"), api.ErrParams, r, nil, nil, 1<<63, nil)
	}
	for _, r := range []ledger.Rules{{Bits: 2}, {Bits: 2, Reward: 1}, {Bits: 2, Reward: 1 << 32}} {
		isBuilt(t, fmt.Sprint(r), r, coins(1, 2), coins(1, 3), 0, stream(r, "a", 1))
	}
}

// badRules: that do not stand.
func badRules() []ledger.Rules {
	list := []ledger.Rules{{}, {Bits: 8, Reward: 1<<32 + 1}, {Bits: 8, Reward: 1 << 33}, {Bits: 8, Reward: 1<<64 - 1}, {Bits: 3, Reward: 1<<32 + 1}}
	for _, n := range []int{-1 << 63, -8, -1, 0, 3, 5, 6, 7, 9, 24, 63, 65, 128, 1 << 32, 1 << 62, 1<<63 - 1} {
		list = append(list, ledger.Rules{Bits: n, Reward: 50})
	}
	return list
}
