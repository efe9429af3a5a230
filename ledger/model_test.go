package ledger_test

// A chain by the chapter's words: of each height a whole copy is kept.

import (
	"crypto/sha512"
	"math/big"
	"slices"
	"testing"

	"veil/api"
	"veil/group"
	"veil/ledger"
	"veil/sample"
)

// moment: all that a chain's calls tell at one time.
type moment struct {
	height   int
	tip      api.Bytes64
	unspent  []api.Bytes32 // in their order
	excesses []api.Bytes32
	supply   uint64
}

// model: a chain; its last moment is now.
type model struct {
	rules   ledger.Rules
	moments []moment
}

func newModel(r ledger.Rules) *model { return &model{r, []moment{{}}} }

func (m *model) now() moment { return m.moments[len(m.moments)-1] }

// with, without: a list with one commitment more, or less; and whether that could be done.
func with(list []api.Bytes32, b api.Bytes32) ([]api.Bytes32, bool) {
	if slices.Contains(list, b) {
		return nil, false
	}
	list = append(slices.Clone(list), b)
	slices.SortFunc(list, func(a, b api.Bytes32) int {
		if above(a, b) {
			return 1
		}
		return -1
	})
	return list, true
}

func without(list []api.Bytes32, b api.Bytes32) ([]api.Bytes32, bool) {
	i := slices.Index(list, b)
	if i < 0 {
		return nil, false
	}
	return slices.Delete(slices.Clone(list), i, i+1), true
}

// apply: the steps in their order.
func (m *model) apply(block []byte) api.Errno {
	s, ok := sheetOf(block)
	now := m.now()
	switch {
	case !ok:
		return api.ErrTx
	case s.height != uint64(now.height)+1 || s.height > 1<<20:
		return api.ErrHeight
	case s.parent != now.tip:
		return api.ErrParent
	}
	mint, ok := paperOf(m.rules.Bits, 2, s.mint)
	if !ok {
		return api.ErrTx
	}
	fees := new(big.Int)
	var txs []paper
	for _, b := range s.txs {
		tx, ok := paperOf(m.rules.Bits, 1, b)
		if !ok {
			return api.ErrTx
		}
		txs = append(txs, tx)
		fees.Add(fees, new(big.Int).SetUint64(tx.fee))
	}
	switch {
	case mint.height != s.height:
		return api.ErrReward
	case fees.Cmp(sample.Power2(63)) >= 0:
		return api.ErrFee
	case fees.Cmp(new(big.Int).SetUint64(mint.fee)) != 0:
		return api.ErrReward
	}
	unspent, e := spend(now.unspent, txs, mint)
	if e != api.OK {
		return e
	}
	excesses := slices.Clone(now.excesses)
	for _, p := range append([]paper{mint}, txs...) {
		if e := p.judged(m.rules); e != api.OK {
			return e
		}
		excesses = append(excesses, p.excess)
	}
	m.moments = append(m.moments, moment{now.height + 1, sha512.Sum512(block), unspent, excesses, now.supply + m.rules.Reward})
	return api.OK
}

// spend: the unspent ones behind transactions and a mint.
func spend(unspent []api.Bytes32, txs []paper, mint paper) ([]api.Bytes32, api.Errno) {
	for _, p := range append(slices.Clone(txs), mint) {
		ok := true
		for _, in := range p.ins {
			if unspent, ok = without(unspent, in); !ok {
				return nil, api.ErrSpent
			}
		}
		for _, out := range p.outs {
			if unspent, ok = with(unspent, out.commitment); !ok {
				return nil, api.ErrThere
			}
		}
	}
	return unspent, api.OK
}

func (m *model) undo() api.Errno {
	if len(m.moments) == 1 {
		return api.ErrEmpty
	}
	m.moments = m.moments[:len(m.moments)-1]
	return api.OK
}

// rootOf: the root of a tree of hashes over commitments.
func rootOf(list []api.Bytes32) api.Bytes64 {
	switch len(list) {
	case 0:
		return sha512.Sum512(nil)
	case 1:
		return sha512.Sum512(append([]byte{0}, list[0][:]...))
	}
	k := 1
	for 2*k < len(list) {
		k *= 2
	}
	left, right := rootOf(list[:k]), rootOf(list[k:])
	return sha512.Sum512(slices.Concat([]byte{1}, left[:], right[:]))
}

// is: all that a chain's calls tell is held against a moment.
func (x moment) is(t testing.TB, what string, c *ledger.Chain) {
	t.Helper()
	if c.Height() != x.height || c.Tip() != x.tip || c.Supply() != x.supply {
		t.Errorf("%s: height %d, supply %d, tip %x; want %d, %d, %x", what, c.Height(), c.Supply(), c.Tip(), x.height, x.supply, x.tip)
	}
	if got := c.Unspent(); !slices.Equal(got, x.unspent) {
		t.Errorf("%s: %d unspent, want %d: %x, want %x", what, len(got), len(x.unspent), got, x.unspent)
	}
	if got := c.Excesses(); !slices.Equal(got, x.excesses) {
		t.Errorf("%s: %d excesses, want %d", what, len(got), len(x.excesses))
	}
	if c.Root() != rootOf(x.unspent) {
		t.Errorf("%s: another root", what)
	}
	for _, b := range x.unspent {
		if !c.Has(b) {
			t.Errorf("%s: %x is not there", what, b)
		}
	}
	for _, b := range slices.Concat(x.excesses, []api.Bytes32{{}, {1}, committed(coin(77777, 77777))}) {
		if c.Has(b) != slices.Contains(x.unspent, b) {
			t.Errorf("%s: Has(%x) is %v", what, b, c.Has(b))
		}
	}
	addsUp(t, what, c)
}

// addsUp: no coins out of nothing: the sum of all unspent commitments is Supply B plus the sum of all excesses.
func addsUp(t testing.TB, what string, c *ledger.Chain) {
	t.Helper()
	var left group.Point
	for _, b := range c.Unspent() {
		left = left.Add(pointOf(b))
	}
	right := generator(api.GenBase).Times(sample.Scalar(new(big.Int).SetUint64(c.Supply())))
	for _, b := range c.Excesses() {
		right = right.Add(pointOf(b))
	}
	if !left.Same(right) {
		t.Errorf("%s: the unspent commitments are not the supply and the excesses", what)
	}
}

// pair: a chain and its model, to which the same is done.
type pair struct {
	chain *ledger.Chain
	model *model
}

func newPair(t testing.TB, r ledger.Rules) pair {
	t.Helper()
	return pair{must[*ledger.Chain](t, "New")(ledger.New(r)), newModel(r)}
}

// apply: and the answer is held against the model's, and all that is told behind it.
func (p pair) apply(t testing.TB, what string, block []byte) api.Errno {
	t.Helper()
	e, want := p.chain.Apply(block), p.model.apply(block)
	errno(t, what, e, want)
	p.model.now().is(t, what, p.chain)
	return e
}

// answers: apply, with a known answer.
func (p pair) answers(t testing.TB, what string, block []byte, want api.Errno) {
	t.Helper()
	errno(t, what, p.apply(t, what, block), want)
}

func (p pair) undo(t testing.TB, what string) api.Errno {
	t.Helper()
	e, want := p.chain.Undo(), p.model.undo()
	errno(t, what+", undone", e, want)
	p.model.now().is(t, what+", undone", p.chain)
	return e
}
