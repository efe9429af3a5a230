package ledger_test

// The examples of the chapter, by their numbers.

import (
	"slices"
	"testing"

	"veil/api"
	"veil/hash"
	"veil/ledger"
	"veil/scalar"
)

// eight: the rules of the examples.
var eight = ledger.Rules{Bits: 8, Reward: 50}

func coin(v, blind uint64) ledger.Coin { return ledger.Coin{V: v, Blind: scalar.Int(blind)} }

// coins: of values and blindings, in turn.
func coins(numbers ...uint64) []ledger.Coin {
	var list []ledger.Coin
	for i := 0; i < len(numbers); i += 2 {
		list = append(list, coin(numbers[i], numbers[i+1]))
	}
	return list
}

// stream: as many bytes as so many outputs want.
func stream(r ledger.Rules, seed string, outs int) []byte {
	return hash.Stretch([]byte(seed), wanted(r.Bits, outs))
}

// built: a transaction that there must be.
func built(t testing.TB, r ledger.Rules, in, out []ledger.Coin, fee uint64) []byte {
	t.Helper()
	tx, _, e := ledger.Build(r, in, out, fee, stream(r, "built", len(out)))
	if e != api.OK {
		t.Fatalf("Build: %d", e)
	}
	return tx
}

// minted: a mint that there must be.
func minted(t testing.TB, r ledger.Rules, height int, fees uint64, out ledger.Coin) []byte {
	t.Helper()
	return must[[]byte](t, "Mint")(ledger.Mint(r, height, fees, out, stream(r, "minted", 1)))
}

// next: the block that comes next in a chain.
func next(t testing.TB, c *ledger.Chain, mint []byte, txs ...[]byte) []byte {
	t.Helper()
	return must[[]byte](t, "Block")(ledger.Block(c.Tip(), c.Height()+1, mint, txs...))
}

func TestExample1New(t *testing.T) {
	for _, r := range []ledger.Rules{{Bits: 3, Reward: 50}, {Bits: 8, Reward: 1<<32 + 1}} {
		if c, e := ledger.New(r); c != nil || e != api.ErrArg {
			t.Errorf("New(%v): %v, %d", r, c, e)
		}
	}
	p := newPair(t, eight)
	errno(t, "Undo", p.undo(t, "a new chain"), api.ErrEmpty)
	if len(p.chain.Unspent()) != 0 || p.chain.Root() != hash.Root() {
		t.Errorf("a new chain: %v, %x", p.chain.Unspent(), p.chain.Root())
	}
}

func TestExample2Mint(t *testing.T) {
	if m := minted(t, eight, 1, 0, coin(50, 7)); len(m) != 611 {
		t.Errorf("the mint has %d bytes", len(m))
	}
	_, e := ledger.Mint(eight, 1, 0, coin(51, 7), stream(eight, "a", 1))
	errno(t, "51 without fees", e, api.ErrReward)
	minted(t, eight, 1, 1, coin(51, 7))
}

// first: the pair behind the first block of the examples, and that block.
func first(t *testing.T) (pair, []byte) {
	t.Helper()
	p := newPair(t, eight)
	one := next(t, p.chain, minted(t, eight, 1, 0, coin(50, 7)))
	p.answers(t, "the first block", one, api.OK)
	return p, one
}

func TestExample3FirstBlock(t *testing.T) {
	p, one := first(t)
	excess := generator(api.GenBlind).Times(scalar.Int(7)).Encode()
	if len(one) != 680 || p.chain.Height() != 1 || p.chain.Supply() != 50 || len(p.chain.Unspent()) != 1 || !slices.Equal(p.chain.Excesses(), []api.Bytes32{excess}) {
		t.Errorf("%d bytes; height %d, supply %d", len(one), p.chain.Height(), p.chain.Supply())
	}
	p.answers(t, "again", one, api.ErrHeight)
}

func TestExample4Build(t *testing.T) {
	in, out := coins(50, 7), coins(30, 1, 19, 2)
	tx, key, e := ledger.Build(eight, in, out, 1, stream(eight, "a", 2))
	errno(t, "Build", e, api.OK)
	if key != scalar.Int(4).Neg() || len(tx) != 1156 {
		t.Errorf("key %v, %d bytes", key, len(tx))
	}
	for _, c := range []struct {
		out []ledger.Coin
		fee uint64
		e   api.Errno
	}{{out, 2, api.ErrBalance}, {coins(30, 1, 30, 1), 1, api.ErrTx}, {coins(256, 1, 19, 2), 1, api.ErrValue}} {
		_, _, e := ledger.Build(eight, in, c.out, c.fee, stream(eight, "a", 2))
		errno(t, "Build", e, c.e)
	}
}

func TestExample5SecondBlock(t *testing.T) {
	p, _ := first(t)
	tx := built(t, eight, coins(50, 7), coins(30, 1, 19, 2), 1)
	p.answers(t, "a mint without the fee", next(t, p.chain, minted(t, eight, 2, 0, coin(50, 9)), tx), api.ErrReward)
	p.answers(t, "the second block", next(t, p.chain, minted(t, eight, 2, 1, coin(51, 9)), tx), api.OK)
	if len(p.chain.Unspent()) != 3 || p.chain.Supply() != 100 {
		t.Errorf("%d unspent, supply %d", len(p.chain.Unspent()), p.chain.Supply())
	}
	for _, c := range coins(30, 1, 19, 2, 51, 9) {
		if !p.chain.Has(committed(c)) {
			t.Errorf("%d is not there", c.V)
		}
	}
}

func TestExample6Spent(t *testing.T) {
	p, _ := first(t)
	tx := built(t, eight, coins(50, 7), coins(30, 1, 19, 2), 1)
	p.answers(t, "the same one twice", next(t, p.chain, minted(t, eight, 2, 2, coin(52, 9)), tx, tx), api.ErrSpent)
	own := built(t, eight, coins(50, 9), coins(50, 10), 0)
	p.answers(t, "the block's own mint", next(t, p.chain, minted(t, eight, 2, 0, coin(50, 9)), own), api.ErrSpent)
}

func TestExample7Undo(t *testing.T) {
	p, one := first(t)
	tx := built(t, eight, coins(50, 7), coins(30, 1, 19, 2), 1)
	p.answers(t, "the second block", next(t, p.chain, minted(t, eight, 2, 1, coin(51, 9)), tx), api.OK)
	errno(t, "Undo", p.undo(t, "the second block"), api.OK)
	errno(t, "Undo", p.undo(t, "the first block"), api.OK)
	if p.chain.Height() != 0 || p.chain.Tip() != (api.Bytes64{}) || len(p.chain.Unspent()) != 0 {
		t.Errorf("height %d, %d unspent", p.chain.Height(), len(p.chain.Unspent()))
	}
	p.answers(t, "the first block again", one, api.OK)
	if p.chain.Height() != 1 || p.chain.Supply() != 50 || p.chain.Tip() != hash.Sum(one) {
		t.Errorf("height %d, supply %d", p.chain.Height(), p.chain.Supply())
	}
}

func TestExample8NoTransactions(t *testing.T) {
	p, _ := first(t)
	good := deal{eight, 1, 0, coins(50, 7, 3, 8), coins(53, 1), 0, stream(eight, "a", 1)}.paper(t)
	none, falling := good, good
	none.outs = nil
	falling.ins = []api.Bytes32{good.ins[1], good.ins[0]}
	b := good.bytes()
	fee := len(b) - 97
	for what, tx := range map[string][]byte{
		"no output":          none.bytes(),
		"falling inputs":     falling.bytes(),
		"a fee of two bytes": slices.Concat(b[:fee], []byte{128, 0}, b[fee+1:]),
		"a byte behind":      append(slices.Clone(b), 0),
	} {
		errno(t, what, ledger.CheckTx(eight, tx), api.ErrTx)
		p.answers(t, what, next(t, p.chain, minted(t, eight, 2, 0, coin(50, 9)), tx), api.ErrTx)
	}
	errno(t, "as it was", ledger.CheckTx(eight, b), api.OK)
}

// The tenth example of the whole.
func TestWholeExample10(t *testing.T) {
	p, _ := first(t)
	if p.chain.Supply() != 50 || len(p.chain.Unspent()) != 1 {
		t.Errorf("supply %d, %d unspent", p.chain.Supply(), len(p.chain.Unspent()))
	}
	p.undo(t, "the first block")
	if p.chain.Supply() != 0 || len(p.chain.Unspent()) != 0 {
		t.Errorf("undone: supply %d, %d unspent", p.chain.Supply(), len(p.chain.Unspent()))
	}
}
