package ledger

// What cannot be seen from outside in a short time: the last height of a chain, fees as great as there may be, and what is kept.

import (
	"slices"
	"testing"

	"veil/api"
	"veil/hash"
	"veil/ranges"
	"veil/scalar"
)

func answered(t *testing.T, what string, got, want api.Errno) {
	t.Helper()
	if got != want {
		t.Errorf("%s: the answer is %d, want %d", what, got, want)
	}
}

func coinOf(v, blind uint64) Coin { return Coin{V: v, Blind: scalar.Int(blind)} }

func (r Rules) stream(outs int) []byte { return hash.Stretch([]byte("inner"), r.wanted(outs)) }

// handmade: the bytes of a block of any height.
func handmade(t *testing.T, r Rules, parent api.Bytes64, height int) []byte {
	t.Helper()
	output, e := r.writeOutput(coinOf(r.Reward, uint64(height)), r.stream(1))
	answered(t, "an output", e, api.OK)
	n := []byte{byte(height) | 128, byte(height>>7) | 128, byte(height >> 14)}
	mint, e := sealed(tagMint, slices.Concat([]byte{2}, n, []byte{0}, output), scalar.Int(uint64(height)), r.stream(1)[r.tape():])
	answered(t, "a mint", e, api.OK)
	b := slices.Concat([]byte{3}, parent[:], n, []byte{byte(len(mint)) | 128, byte(len(mint) >> 7)}, mint)
	return append(b, 0)
}

// The chain ends at MaxHeight, with what is told of its supply; Undo leads back, and it goes up again.
func TestP1806MaxHeight(t *testing.T) {
	t.Parallel()
	r := Rules{Bits: 64, Reward: api.MaxReward}
	c, _ := New(r)
	c.blocks = make([]applied, api.MaxHeight-2)
	for range 2 {
		for height := api.MaxHeight - 1; height <= api.MaxHeight; height++ {
			mint, e := Mint(r, height, 0, coinOf(r.Reward, uint64(height)), r.stream(1))
			answered(t, "Mint", e, api.OK)
			block, e := Block(c.Tip(), height, mint)
			answered(t, "Block", e, api.OK)
			if !slices.Equal(block, handmade(t, r, c.Tip(), height)) {
				t.Errorf("a block of the height %d by hand is another one", height)
			}
			answered(t, "Apply", c.Apply(block), api.OK)
			if c.Height() != height || c.Supply() != uint64(height)<<32 || c.Tip() != hash.Sum(block) {
				t.Errorf("height %d, supply %d", c.Height(), c.Supply())
			}
		}
		tip := c.Tip()
		answered(t, "one above", c.Apply(handmade(t, r, tip, api.MaxHeight+1)), api.ErrHeight)
		answered(t, "one above, on another parent", c.Apply(handmade(t, r, api.Bytes64{}, api.MaxHeight+1)), api.ErrHeight)
		answered(t, "the last once more", c.Apply(handmade(t, r, tip, api.MaxHeight)), api.ErrHeight)
		if c.Height() != api.MaxHeight || c.Tip() != tip || c.Supply() != 1<<52 || len(c.Unspent()) != 2 {
			t.Errorf("height %d, supply %d, %d unspent", c.Height(), c.Supply(), len(c.Unspent()))
		}
		answered(t, "Undo", c.Undo(), api.OK)
		answered(t, "Undo", c.Undo(), api.OK)
		if c.Height() != api.MaxHeight-2 || len(c.Unspent()) != 0 {
			t.Errorf("undone: height %d, %d unspent", c.Height(), len(c.Unspent()))
		}
	}
}

// Fees of 2^63 - 1 in all, of coins that no chain of this length could have made.
func TestP1810GreatFees(t *testing.T) {
	t.Parallel()
	r := Rules{Bits: 64, Reward: api.MaxReward}
	for _, fees := range [][]uint64{{1<<63 - 1}, {1<<62 - 1, 1 << 62}, {1, 1 << 62, 1<<62 - 2}} {
		c, _ := New(r)
		var txs [][]byte
		for i, fee := range fees {
			in := coinOf(fee+5, uint64(10+i))
			c.unspent.take(step{ranges.Commit(in)[0], true})
			tx, _, e := Build(r, []Coin{in}, []Coin{coinOf(5, uint64(20+i))}, fee, r.stream(1))
			answered(t, "Build", e, api.OK)
			txs = append(txs, tx)
		}
		before := c.Unspent()
		out := coinOf(api.MaxReward+1<<63-1, 7)
		mint, e := Mint(r, 1, 1<<63-1, out, r.stream(1))
		answered(t, "Mint", e, api.OK)
		block, _ := Block(c.Tip(), 1, mint, txs...)
		answered(t, "Apply", c.Apply(block), api.OK)
		if len(c.Unspent()) != len(fees)+1 || !c.Has(ranges.Commit(out)[0]) || c.Supply() != api.MaxReward {
			t.Errorf("%d unspent, supply %d", len(c.Unspent()), c.Supply())
		}
		answered(t, "Undo", c.Undo(), api.OK)
		if !slices.Equal(c.Unspent(), before) {
			t.Errorf("undone there are others")
		}
	}
}

// A refused block leaves nothing behind, nor does one that is undone.
func TestP1801P1807NothingIsLeftBehind(t *testing.T) {
	t.Parallel()
	r := Rules{Bits: 1, Reward: 1}
	c, _ := New(r)
	mint, _ := Mint(r, 1, 0, coinOf(1, 5), r.stream(1))
	block, _ := Block(c.Tip(), 1, mint)
	spoilt := slices.Clone(block)
	spoilt[len(spoilt)-3] ^= 1
	answered(t, "spoilt", c.Apply(spoilt), api.ErrSign)
	if len(c.unspent) != 0 || len(c.blocks) != 0 {
		t.Errorf("a refused block has left something")
	}
	answered(t, "Apply", c.Apply(block), api.OK)
	answered(t, "Undo", c.Undo(), api.OK)
	if last := c.blocks[:1][0]; len(c.unspent) != 0 || len(c.blocks) != 0 || last.taken != nil || last.excesses != nil {
		t.Errorf("a block that is undone has left something")
	}
}

// Each kind of record has its own first byte, and is read as no other.
func TestP1811Kinds(t *testing.T) {
	t.Parallel()
	r := Rules{Bits: 1, Reward: 1}
	tx, _, _ := Build(r, nil, []Coin{coinOf(0, 5)}, 0, r.stream(1))
	mint, _ := Mint(r, 1, 0, coinOf(1, 5), r.stream(1))
	block, _ := Block(api.Bytes64{}, 1, mint, tx)
	for i, b := range [][]byte{tx, mint, block} {
		if int(b[0]) != i+1 {
			t.Errorf("record %d begins with %d", i, b[0])
		}
		for kind := uint64(1); kind <= 3; kind++ {
			if _, ok := r.read(kind, b); ok != (kind == uint64(i+1)) {
				t.Errorf("record %d is read as kind %d: %v", i, kind, ok)
			}
		}
	}
}
