package ledger_test

// P1807 to P1810: chains that go up and down.

import (
	"fmt"
	"slices"
	"testing"

	"veil/api"
	"veil/ledger"
	"veil/sample"
)

// purse: the coins that are unspent, as somebody knows them who knows all.
type purse []ledger.Coin

// walk: a chain that goes up and down, by blocks of what Build and Mint answer.
type walk struct {
	pair
	sample.Maker
	rules  ledger.Rules
	purses []purse  // at each height
	blocks [][]byte // each height's
}

func newWalk(t testing.TB, seed uint64) *walk {
	t.Helper()
	return &walk{pair: newPair(t, eight), Maker: sample.Maker(seed), rules: eight, purses: []purse{nil}}
}

func (w *walk) below(n uint64) uint64 { return w.Next() % n }

func (w *walk) coin(v uint64) ledger.Coin {
	return ledger.Coin{V: v, Blind: w.Limbs(sample.Number(w.Bytes(40)))}
}

// payment: a transaction of some coins of a purse, its fee, and the purse behind it.
func (w *walk) payment(t testing.TB, from purse) (tx []byte, fee uint64, behind purse) {
	t.Helper()
	behind = slices.Clone(from)
	var in, out []ledger.Coin
	var sum uint64
	for range min(1+w.below(4), uint64(len(from))) {
		i := int(w.below(uint64(len(behind))))
		in, sum = append(in, behind[i]), sum+behind[i].V
		behind = slices.Delete(behind, i, i+1)
	}
	fee = w.below(min(sum, 9) + 1)
	for rest := sum - fee; rest > 0 || len(out) == 0; {
		v := min(rest, 255)
		if len(out) < 3 {
			v = w.below(v + 1)
		}
		out, rest = append(out, w.coin(v)), rest-v
	}
	tx, _, e := ledger.Build(w.rules, in, out, fee, w.Bytes(wanted(w.rules.Bits, len(out))))
	errno(t, "Build", e, api.OK)
	errno(t, "CheckTx", ledger.CheckTx(w.rules, tx), api.OK)
	return tx, fee, append(behind, out...)
}

// block: the next one, of any payments, and the purse behind it.
func (w *walk) block(t testing.TB) ([]byte, purse) {
	t.Helper()
	height := w.chain.Height()
	now := w.purses[height]
	var txs [][]byte
	var fees uint64
	for range w.below(4) {
		tx, fee, behind := w.payment(t, now)
		txs, fees, now = append(txs, tx), fees+fee, behind
	}
	out := w.coin(w.rules.Reward + fees)
	mint := must[[]byte](t, "Mint")(ledger.Mint(w.rules, height+1, fees, out, w.Bytes(wanted(w.rules.Bits, 1))))
	return next(t, w.chain, mint, txs...), append(slices.Clone(now), out)
}

// up: one block more.
func (w *walk) up(t testing.TB) {
	t.Helper()
	b, behind := w.block(t)
	w.answers(t, "up", b, api.OK)
	w.purses, w.blocks = append(w.purses, behind), append(w.blocks, b)
	w.known(t)
}

// down: one block less.
func (w *walk) down(t testing.TB) {
	t.Helper()
	want := api.ErrEmpty
	if last := len(w.blocks) - 1; last >= 0 {
		want = api.OK
		w.purses, w.blocks = w.purses[:last+1], w.blocks[:last]
	}
	errno(t, "down", w.undo(t, "down"), want)
	w.known(t)
}

// known: the coins that are known are those that are unspent, and their worth is the supply.
func (w *walk) known(t testing.TB) {
	t.Helper()
	now := w.purses[len(w.purses)-1]
	var worth uint64
	for _, c := range now {
		worth += c.V
		if !w.chain.Has(committed(c)) {
			t.Errorf("a coin of %d is not there", c.V)
		}
	}
	if len(now) != len(w.chain.Unspent()) || worth != w.chain.Supply() {
		t.Errorf("%d coins worth %d are known; %d are unspent, and the supply is %d", len(now), worth, len(w.chain.Unspent()), w.chain.Supply())
	}
}

// Any calls, one behind the other: blocks that are right, blocks that are not, blocks of other times, and Undo.
func TestP1807P1808P1809AnyCalls(t *testing.T) {
	t.Parallel()
	for seed := range uint64(shares) {
		t.Run(fmt.Sprint(seed), func(t *testing.T) {
			t.Parallel()
			w := newWalk(t, 1807+seed)
			var old [][]byte
			for range 40 {
				switch w.below(8) {
				case 0, 1, 2, 3:
					w.up(t)
					old = append(old, w.blocks[len(w.blocks)-1])
				case 4:
					for range 1 + w.below(3) {
						w.down(t)
					}
				case 5:
					b, _ := w.block(t)
					if e := w.apply(t, "edited", edited(&w.Maker, b)); e == api.OK {
						t.Fatalf("other bytes are accepted")
					}
				case 6:
					w.mixed(t)
				case 7:
					if len(old) > 0 {
						w.oldBlock(t, old[w.below(uint64(len(old)))])
					}
				}
				w.known(t)
			}
		})
	}
}

// mixed: a block of right payments in a wrong order, or some of them twice or left out.
func (w *walk) mixed(t testing.TB) {
	t.Helper()
	b, _ := w.block(t)
	s, _ := sheetOf(b)
	if len(s.txs) == 0 {
		return
	}
	i, j := w.below(uint64(len(s.txs))), w.below(uint64(len(s.txs)))
	s.txs = slices.Clone(s.txs)
	switch w.below(3) {
	case 0:
		s.txs[i], s.txs[j] = s.txs[j], s.txs[i]
	case 1:
		s.txs = append(s.txs, s.txs[i])
	case 2:
		s.txs = slices.Delete(s.txs, int(i), int(i)+1)
	}
	if w.apply(t, "mixed", s.bytes()) == api.OK {
		w.undo(t, "mixed")
	}
}

// oldBlock: one that was there once.
func (w *walk) oldBlock(t testing.TB, b []byte) {
	t.Helper()
	if w.apply(t, "an old block", b) == api.OK {
		w.undo(t, "an old block")
	}
}

// alike: two chains tell the same, in all their calls.
func alike(t testing.TB, what string, a, b *ledger.Chain) {
	t.Helper()
	if a.Height() != b.Height() || a.Tip() != b.Tip() || a.Supply() != b.Supply() || a.Root() != b.Root() || !slices.Equal(a.Unspent(), b.Unspent()) || !slices.Equal(a.Excesses(), b.Excesses()) {
		t.Errorf("%s: not what a chain tells that was never higher", what)
	}
	for _, x := range slices.Concat(a.Unspent(), b.Unspent(), a.Excesses()) {
		if a.Has(x) != b.Has(x) {
			t.Errorf("%s: Has is not what it is of a chain that was never higher", what)
		}
	}
}

// fresh: a chain that was never higher than these blocks.
func fresh(t testing.TB, blocks [][]byte) *ledger.Chain {
	t.Helper()
	c := must[*ledger.Chain](t, "New")(ledger.New(eight))
	for _, b := range blocks {
		errno(t, "a fresh chain", c.Apply(b), api.OK)
	}
	return c
}

// answersAlike: both chains answer the same to all these blocks, ahead of the others and behind them.
func answersAlike(t testing.TB, what string, a, b *ledger.Chain, blocks [][]byte) {
	t.Helper()
	for i, x := range blocks {
		e, want := a.Apply(x), b.Apply(x)
		errno(t, fmt.Sprint(what, ", block ", i), e, want)
		alike(t, fmt.Sprint(what, ", block ", i), a, b)
		if e == api.OK {
			errno(t, what, a.Undo(), api.OK)
			errno(t, what, b.Undo(), api.OK)
			alike(t, fmt.Sprint(what, ", block ", i, " undone"), a, b)
		}
	}
}

// Down to the beginning, other blocks from each height on, and down again: at each height a chain that was never higher tells the same and answers the same.
func TestP1807DownAndOtherBlocks(t *testing.T) {
	t.Parallel()
	w := newWalk(t, 18070)
	const top = 6
	for range top {
		w.up(t)
	}
	first := slices.Clone(w.blocks)
	all := slices.Clone(first)
	for height := top; height >= 0; height-- {
		alike(t, fmt.Sprint("height ", height), w.chain, fresh(t, first[:height]))
		for range 2 {
			w.up(t)
			all = append(all, w.blocks[len(w.blocks)-1])
		}
		alike(t, fmt.Sprint("two other blocks on height ", height), w.chain, fresh(t, w.blocks))
		w.down(t)
		alike(t, fmt.Sprint("one other block on height ", height), w.chain, fresh(t, w.blocks))
		w.down(t)
		answersAlike(t, fmt.Sprint("height ", height), w.chain, fresh(t, first[:height]), all)
		w.down(t)
	}
	errno(t, "at the beginning", w.undo(t, "at the beginning"), api.ErrEmpty)
	for i, b := range first {
		w.answers(t, fmt.Sprint("up again, block ", i), b, api.OK)
	}
	alike(t, "up again", w.chain, fresh(t, first))
}

// Undo of a new chain, again and again, and of one that came back.
func TestP1807Empty(t *testing.T) {
	t.Parallel()
	p := newPair(t, eight)
	for range 3 {
		errno(t, "a new chain", p.undo(t, "a new chain"), api.ErrEmpty)
	}
	p.answers(t, "a block", next(t, p.chain, minted(t, eight, 1, 0, coin(50, 7))), api.OK)
	errno(t, "one block", p.undo(t, "one block"), api.OK)
	for range 3 {
		errno(t, "a chain that came back", p.undo(t, "a chain that came back"), api.ErrEmpty)
	}
}

// Unspent commitments come in the order of their bytes, excesses in that of their blocks.
func TestP1808Orders(t *testing.T) {
	t.Parallel()
	p := newPair(t, eight)
	var excesses []api.Bytes32
	for height := 1; height <= 9; height++ {
		d := deal{eight, 1, 0, nil, []ledger.Coin{coin(0, uint64(1000-height))}, 0, stream(eight, "built", 1)}
		mint := deal{eight, 2, uint64(height), nil, []ledger.Coin{coin(50, uint64(height))}, 0, stream(eight, "minted", 1)}
		p.answers(t, "up", next(t, p.chain, mint.paper(t).bytes(), d.paper(t).bytes()), api.OK)
		excesses = append(excesses, mint.paper(t).excess, d.paper(t).excess)
	}
	list := p.chain.Unspent()
	for i := 1; i < len(list); i++ {
		if !above(list[i], list[i-1]) {
			t.Errorf("unspent commitment %d is not above the one ahead of it", i)
		}
	}
	if len(list) != 18 || !slices.Equal(p.chain.Excesses(), excesses) {
		t.Errorf("%d unspent; the excesses are in another order", len(list))
	}
}
