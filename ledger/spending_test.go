package ledger_test

// P1806, step 7, and P1810: what is unspent when its turn comes.

import (
	"fmt"
	"slices"
	"testing"

	"veil/api"
	"veil/ledger"
)

// pays: a transaction of coins that go in and coins that come out, without a fee.
func pays(t testing.TB, in, out []ledger.Coin) []byte {
	t.Helper()
	return built(t, four, in, out, 0)
}

// behindOne: a chain with the unspent coins (10, 1) and, of no value, (0, 1) and (0, 2).
func behindOne(t testing.TB) pair {
	t.Helper()
	p := newPair(t, four)
	p.answers(t, "the first block", next(t, p.chain, minted(t, four, 1, 0, coin(10, 1)), pays(t, nil, coins(0, 1, 0, 2))), api.OK)
	return p
}

// Transactions of one block, one behind the other, each held against the model; those that are taken are undone.
func TestP1806Spending(t *testing.T) {
	t.Parallel()
	a, b, c := coins(10, 1), coins(10, 2), coins(10, 3)
	ab, bc, ca, ba := pays(t, a, b), pays(t, b, c), pays(t, c, a), pays(t, b, a)
	zero, nothing := pays(t, nil, coins(0, 3)), pays(t, nil, coins(0, 1))
	own := coins(10, 9) // what the mint makes
	for _, x := range []struct {
		what string
		txs  [][]byte
		want api.Errno
	}{
		{"none", nil, api.OK},
		{"one", [][]byte{ab}, api.OK},
		{"what an earlier one made", [][]byte{ab, bc}, api.OK},
		{"what a later one makes", [][]byte{bc, ab}, api.ErrSpent},
		{"the same one twice", [][]byte{ab, ab}, api.ErrSpent},
		{"there and back", [][]byte{ab, ba}, api.OK},
		{"there and back, twice", [][]byte{ab, ba, ab, ba}, api.OK},
		{"there and back, and there again", [][]byte{ab, ba, ab}, api.OK},
		{"all the way round", [][]byte{ab, bc, ca}, api.OK},
		{"the way round the other way", [][]byte{ca, bc, ab}, api.ErrSpent},
		{"the same coin two ways", [][]byte{ab, pays(t, a, c)}, api.ErrSpent},
		{"a coin that comes back by itself", [][]byte{pays(t, a, a)}, api.OK},
		{"a coin that comes back, beside another", [][]byte{pays(t, coins(10, 1, 0, 1), coins(10, 1, 0, 4))}, api.OK},
		{"an input that never was", [][]byte{bc}, api.ErrSpent},
		{"an input that never was, beside one that is", [][]byte{pays(t, coins(10, 1, 0, 7), b)}, api.ErrSpent},
		{"an input that was spent", [][]byte{ab, bc, pays(t, b, coins(10, 5))}, api.ErrSpent},
		{"an output that is there", [][]byte{nothing}, api.ErrThere},
		{"an output that is there, beside one that is not", [][]byte{pays(t, a, coins(10, 2, 0, 1))}, api.ErrThere},
		{"an output that an earlier one made", [][]byte{zero, zero}, api.ErrThere},
		{"an output that is there, and is spent later", [][]byte{nothing, pays(t, coins(0, 1), coins(0, 5))}, api.ErrThere},
		{"an output that was there, and was spent earlier", [][]byte{pays(t, coins(0, 1), coins(0, 5)), nothing}, api.OK},
		{"an output that is spent by the same one", [][]byte{pays(t, coins(10, 1, 0, 1), coins(10, 2, 0, 1))}, api.OK},
		{"spent ahead of there", [][]byte{pays(t, coins(0, 7), coins(0, 1))}, api.ErrSpent},
		{"there ahead of spent of the next one", [][]byte{nothing, bc}, api.ErrThere},
		{"spent ahead of there of the next one", [][]byte{bc, nothing}, api.ErrSpent},
		{"the block's own mint", [][]byte{pays(t, own, b)}, api.ErrSpent},
		{"what the mint makes", [][]byte{pays(t, a, own)}, api.ErrThere},
		{"what the mint makes, spent again", [][]byte{pays(t, a, own), pays(t, own, b)}, api.OK},
	} {
		p := behindOne(t)
		before := p.model.now()
		mint := minted(t, four, 2, 0, own[0])
		p.answers(t, x.what, next(t, p.chain, mint, x.txs...), x.want)
		if x.want == api.OK {
			if p.chain.Supply() != 20 || len(p.chain.Excesses()) != 3+len(x.txs) {
				t.Errorf("%s: supply %d, %d excesses", x.what, p.chain.Supply(), len(p.chain.Excesses()))
			}
			p.undo(t, x.what)
			before.is(t, x.what+", undone", p.chain)
			p.answers(t, x.what+", again", next(t, p.chain, mint, x.txs...), api.OK)
		}
	}
}

// A mint's output: there already, spent in the same block, and spent from the next block on.
func TestP1806OwnMint(t *testing.T) {
	t.Parallel()
	a := coins(10, 1)
	p := behindOne(t)
	p.answers(t, "a mint that is there", next(t, p.chain, minted(t, four, 2, 0, a[0])), api.ErrThere)
	p.answers(t, "a mint that was there", next(t, p.chain, minted(t, four, 2, 0, a[0]), pays(t, a, coins(10, 2))), api.OK)
	if !p.chain.Has(committed(a[0])) || !p.chain.Has(committed(coin(10, 2))) || p.chain.Supply() != 20 {
		t.Errorf("behind the second block")
	}
	spends := pays(t, a, coins(10, 3))
	p.answers(t, "the mint of the block below", next(t, p.chain, minted(t, four, 3, 0, coin(10, 4)), spends), api.OK)
	for range 3 {
		p.undo(t, "down")
	}
	errno(t, "at the beginning", p.undo(t, "down"), api.ErrEmpty)
}

// Blocks of as many transactions, inputs and outputs as there may be.
func TestP1806P1810GreatBlocks(t *testing.T) {
	t.Parallel()
	r := ledger.Rules{Bits: 1, Reward: 1}
	p := newPair(t, r)
	zeros := func(from, n int) []ledger.Coin {
		var list []ledger.Coin
		for i := range n {
			list = append(list, coin(0, uint64(1000*from+i)))
		}
		return list
	}
	var txs [][]byte
	for i := range 32 {
		txs = append(txs, built(t, r, nil, zeros(i, 2), 0))
	}
	p.answers(t, "32 transactions", next(t, p.chain, minted(t, r, 1, 0, coin(1, 7)), txs...), api.OK)
	if len(p.chain.Unspent()) != 65 || len(p.chain.Excesses()) != 33 {
		t.Errorf("%d unspent, %d excesses", len(p.chain.Unspent()), len(p.chain.Excesses()))
	}
	all := built(t, r, slices.Concat(zeros(0, 2), zeros(1, 2), zeros(2, 2), zeros(3, 2), zeros(4, 2), zeros(5, 2), zeros(6, 2), zeros(7, 2)), zeros(50, 16), 0)
	p.answers(t, "16 inputs and 16 outputs", next(t, p.chain, minted(t, r, 2, 0, coin(1, 8)), all), api.OK)
	if len(p.chain.Unspent()) != 66 {
		t.Errorf("%d unspent", len(p.chain.Unspent()))
	}
	mint := minted(t, r, 3, 0, coin(1, 9))
	txs = txs[:0]
	for i := range 33 {
		txs = append(txs, built(t, r, zeros(i+8, 1), zeros(i+60, 1), 0))
	}
	p.answers(t, "33 transactions", sheet{p.chain.Tip(), 3, mint, txs}.bytes(), api.ErrTx)
	p.undo(t, "the second block")
	p.undo(t, "the first block")
}

// A chain of payments inside of one block, each of what the one ahead of it made, with fees that go to the mint.
func TestP1810OneBehindTheOther(t *testing.T) {
	t.Parallel()
	p := newPair(t, eight)
	p.answers(t, "the first block", next(t, p.chain, minted(t, eight, 1, 0, coin(50, 1))), api.OK)
	var txs [][]byte
	for i := range uint64(32) {
		txs = append(txs, built(t, eight, coins(50-i, 1+i), coins(49-i, 2+i), 1))
	}
	p.answers(t, "another order", next(t, p.chain, minted(t, eight, 2, 32, coin(82, 99)), append(slices.Clone(txs[1:]), txs[0])...), api.ErrSpent)
	p.answers(t, "the second block", next(t, p.chain, minted(t, eight, 2, 32, coin(82, 99)), txs...), api.OK)
	if len(p.chain.Unspent()) != 2 || !p.chain.Has(committed(coin(18, 33))) || !p.chain.Has(committed(coin(82, 99))) {
		t.Errorf("%d unspent", len(p.chain.Unspent()))
	}
}

// Rules under which a chain begins, and such under which none does.
func TestP1806New(t *testing.T) {
	t.Parallel()
	for _, r := range badRules() {
		if c, e := ledger.New(r); c != nil || e != api.ErrArg {
			t.Errorf("New(%v): %v, %d", r, c, e)
		}
	}
	for _, n := range allBits {
		for _, reward := range []uint64{0, 1, 50, 1<<32 - 1, 1 << 32} {
			p := newPair(t, ledger.Rules{Bits: n, Reward: reward})
			p.model.now().is(t, fmt.Sprint(n, " bits, reward ", reward), p.chain)
			errno(t, "Undo", p.undo(t, "a new chain"), api.ErrEmpty)
		}
	}
}

// Rewards of 0 and of 2^32, and of the greatest value that there is room for.
func TestP1806Rewards(t *testing.T) {
	t.Parallel()
	for _, r := range []ledger.Rules{{Bits: 1, Reward: 0}, {Bits: 1, Reward: 1}, {Bits: 8, Reward: 255}, {Bits: 64, Reward: 1 << 32}} {
		p := newPair(t, r)
		for height := 1; height <= 3; height++ {
			p.answers(t, fmt.Sprint(r), next(t, p.chain, minted(t, r, height, 0, coin(r.Reward, uint64(height)))), api.OK)
			if p.chain.Supply() != uint64(height)*r.Reward {
				t.Errorf("%v: supply %d", r, p.chain.Supply())
			}
		}
	}
}
