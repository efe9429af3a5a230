package ledger_test

// P1803: minting.

import (
	"bytes"
	"fmt"
	"math"
	"math/bits"
	"slices"
	"testing"

	"veil/api"
	"veil/ledger"
	"veil/sample"
)

// isMinted: Mint's answer is held byte for byte against the document's words, and the reference takes it for a mint.
func isMinted(t testing.TB, what string, r ledger.Rules, height int, fees uint64, out ledger.Coin, stream []byte) []byte {
	t.Helper()
	d := deal{r, 2, uint64(height), nil, []ledger.Coin{out}, fees, stream}
	mint, e := ledger.Mint(r, height, fees, out, stream)
	errno(t, what, e, api.OK)
	if want := d.paper(t).bytes(); !bytes.Equal(mint, want) {
		t.Errorf("%s: %d bytes that are not the %d that they must be", what, len(mint), len(want))
	}
	p, ok := paperOf(r.Bits, 2, mint)
	if !ok || p.height != uint64(height) || p.fee != fees || p.outs[0].commitment != committed(out) {
		t.Errorf("%s: no such mint", what)
	}
	errno(t, what, p.judged(r), api.OK)
	return mint
}

func isNotMinted(t testing.TB, what string, want api.Errno, r ledger.Rules, height int, fees uint64, out ledger.Coin, stream []byte) {
	t.Helper()
	mint, e := ledger.Mint(r, height, fees, out, stream)
	errno(t, what, e, want)
	if len(mint) != 0 {
		t.Errorf("%s: %d bytes beside an error", what, len(mint))
	}
}

func TestP1803ByTheWords(t *testing.T) {
	t.Parallel()
	m := sample.Maker(1803)
	for _, n := range allBits {
		for range 3 {
			r := ledger.Rules{Bits: n, Reward: m.Next() >> (64 - min(n, 32))}
			fees := m.Next() % (1<<(n-1) - r.Reward>>1 + 1)
			if top := uint64(1) << n; n < 64 && r.Reward+fees >= top {
				fees = top - 1 - r.Reward
			}
			out := ledger.Coin{V: r.Reward + fees, Blind: m.Limbs(m.Number())}
			isMinted(t, fmt.Sprint(n, " bits"), r, int(m.Next()%(1<<20))+1, fees, out, m.Bytes(wanted(n, 1)))
		}
	}
}

func TestP1803Heights(t *testing.T) {
	t.Parallel()
	r := ledger.Rules{Bits: 2, Reward: 3}
	for _, height := range []int{1, 2, 127, 128, 16383, 16384, 1<<20 - 1, 1 << 20} {
		isMinted(t, fmt.Sprint("height ", height), r, height, 0, coin(3, 7), stream(r, "a", 1))
	}
	for _, height := range []int{0, -1, math.MinInt, 1<<20 + 1, 1 << 32, math.MaxInt} {
		isNotMinted(t, fmt.Sprint("height ", height), api.ErrHeight, r, height, 0, coin(3, 7), stream(r, "a", 1))
	}
}

func TestP1803FeesAndRewards(t *testing.T) {
	t.Parallel()
	const half = 1 << 63
	for _, reward := range []uint64{0, 1, 1 << 32} {
		r := ledger.Rules{Bits: 64, Reward: reward}
		for _, fees := range []uint64{0, 1, 127, 128, half - 1} {
			v := reward + fees
			isMinted(t, fmt.Sprint(reward, " and ", fees), r, 1, fees, coin(v, 7), stream(r, "a", 1))
			for _, other := range []uint64{v + 1, v - 1, v + half, v + 1<<32} {
				isNotMinted(t, fmt.Sprint(other, " for ", v), api.ErrReward, r, 1, fees, coin(other, 7), stream(r, "a", 1))
			}
		}
		for _, fees := range []uint64{half, half + 1, 1<<64 - 1, -reward} {
			if fees >= half {
				isNotMinted(t, fmt.Sprint("fees ", fees), api.ErrFee, r, 1, fees, coin(reward+fees, 7), stream(r, "a", 1))
			}
		}
	}
}

func TestP1803Values(t *testing.T) {
	t.Parallel()
	for _, n := range allBits {
		if n == 64 {
			continue // the greatest there is 2^32 + 2^63 - 1
		}
		top := uint64(1) << n
		r := ledger.Rules{Bits: n, Reward: 1}
		isMinted(t, fmt.Sprint("the greatest of ", n, " bits"), r, 1, top-2, coin(top-1, 7), stream(r, "a", 1))
		isNotMinted(t, fmt.Sprint("2^", n), api.ErrValue, r, 1, top-1, coin(top, 7), stream(r, "a", 1))
		isNotMinted(t, fmt.Sprint("2^63 in ", n, " bits"), api.ErrValue, r, 1, 1<<63-1, coin(1<<63, 7), stream(r, "a", 1))
	}
	r := ledger.Rules{Bits: 32, Reward: 1 << 32}
	isNotMinted(t, "a reward that no output can hold", api.ErrValue, r, 1, 0, coin(1<<32, 7), stream(r, "a", 1))
}

func TestP1803Streams(t *testing.T) {
	t.Parallel()
	for _, n := range []int{1, 2, 16} {
		r := ledger.Rules{Bits: n, Reward: 1}
		want := stream(r, "a", 1)
		mint := isMinted(t, "as many as are wanted", r, 1, 0, coin(1, 7), want)
		other, _ := ledger.Mint(r, 1, 0, coin(1, 7), append(slices.Clone(want), 1, 2, 3))
		if !bytes.Equal(mint, other) {
			t.Errorf("what lies behind the stream counts")
		}
		for _, size := range []int{len(want) - 1, len(want) - 64, 1, 0} {
			isNotMinted(t, fmt.Sprint(size, " bytes"), api.ErrShort, r, 1, 0, coin(1, 7), want[:size])
		}
		isNotMinted(t, "no stream", api.ErrShort, r, 1, 0, coin(1, 7), nil)
	}
}

// By whatever limbs of the blinding; 0 among them, whose excess is neutral.
func TestP1803Limbs(t *testing.T) {
	t.Parallel()
	r := ledger.Rules{Bits: 1, Reward: 1}
	for _, blind := range []uint64{0, 7} {
		mint := isMinted(t, "the least limbs", r, 1, 0, coin(1, blind), stream(r, "a", 1))
		for _, look := range sample.Scalars(sample.NumberOf(coin(1, blind).Blind)) {
			other := isMinted(t, "other limbs", r, 1, 0, ledger.Coin{V: 1, Blind: look}, stream(r, "a", 1))
			if !bytes.Equal(mint, other) {
				t.Errorf("by other limbs there is another mint")
			}
		}
	}
}

// Of several errors the one named first: all ways in which the six can come together.
func TestP1803OrderOfErrors(t *testing.T) {
	t.Parallel()
	errors := []api.Errno{api.ErrParams, api.ErrHeight, api.ErrFee, api.ErrReward, api.ErrValue, api.ErrShort}
	for way := range 1 << 6 {
		r, height, fees, s := eight, 1, uint64(1), stream(eight, "a", 1)
		wrong := func(place int) bool { return way>>place&1 == 1 }
		if wrong(4) {
			fees = 206
		}
		if wrong(2) {
			fees = 1 << 63 // its value is too great, too: that is named behind it
		}
		out := coin(50+fees, 7)
		if wrong(3) {
			out.V++
		}
		if wrong(0) {
			r = []ledger.Rules{{Bits: 3, Reward: 50}, {Bits: 8, Reward: 1<<32 + 1}}[bits.OnesCount(uint(way))%2]
		}
		if wrong(1) {
			height = []int{0, 1<<20 + 1}[bits.OnesCount(uint(way))%2]
		}
		if wrong(5) {
			s = s[1:]
		}
		if way == 0 {
			isMinted(t, "nothing wrong", r, height, fees, out, s)
			continue
		}
		isNotMinted(t, fmt.Sprintf("wrong: %06b", way), errors[bits.TrailingZeros(uint(way))], r, height, fees, out, s)
	}
}

func TestP1803Rules(t *testing.T) {
	t.Parallel()
	for _, r := range badRules() {
		isNotMinted(t, fmt.Sprint(r), api.ErrParams, r, 1, 0, coin(r.Reward, 7), stream(eight, "a", 9))
		isNotMinted(t, fmt.Sprint(r, " and nothing"), api.ErrParams, r, 0, 1<<63, ledger.Coin{}, nil)
	}
}
