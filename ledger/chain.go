package ledger

import (
	"slices"

	"veil/api"
	"veil/hash"
)

// Chain: a chain of blocks.
type Chain struct {
	rules   Rules
	unspent outputs // nil: New didn't make the chain, so it counts as nil
	blocks  []applied
}

// applied: what is kept of a block: what is told of it, and what its Undo wants.
type applied struct {
	tip      api.Bytes64
	excesses []api.Bytes32
	taken    []step
}

// none: of a nil Chain and of one that New did not make.
func (c *Chain) none() bool { return c == nil || c.unspent == nil }

// New: a chain without blocks.
func New(r Rules) (*Chain, api.Errno) {
	if !r.stand() {
		return nil, api.ErrArg
	}
	return &Chain{rules: r, unspent: outputs{}}, api.OK
}

// Apply: the next block: all of it, or nothing.
func (c *Chain) Apply(block []byte) api.Errno {
	if c.none() {
		return api.ErrArg
	}
	b, ok := c.rules.read(kindBlock, block)
	switch {
	case !ok:
		return api.ErrTx
	case b.height != uint64(c.Height())+1 || b.height > api.MaxHeight:
		return api.ErrHeight
	case b.parent != c.Tip():
		return api.ErrParent
	}
	mint, txs, e := c.rules.inside(b)
	if e != api.OK {
		return e
	}
	// The mint's output is made behind all transactions: so none of them can spend it.
	taken, e := c.unspent.run(append(slices.Clone(txs), mint))
	if e != api.OK {
		return e
	}
	next := applied{tip: hash.Sum(block), taken: taken}
	for _, x := range append([]record{mint}, txs...) {
		if e := c.rules.judge(x); e != api.OK {
			c.unspent.back(taken)
			return e
		}
		next.excesses = append(next.excesses, x.kernel.excess.bytes)
	}
	c.blocks = append(c.blocks, next)
	return api.OK
}

// inside: a block's mint and transactions, whose heights and fees fit together.
func (r Rules) inside(block record) (mint record, txs []record, e api.Errno) {
	mint, ok := r.read(kindMint, block.mint)
	if !ok {
		return record{}, nil, api.ErrTx
	}
	for _, b := range block.txs {
		tx, ok := r.read(kindTx, b)
		if !ok {
			return record{}, nil, api.ErrTx
		}
		txs = append(txs, tx)
	}
	if mint.height != block.height {
		return record{}, nil, api.ErrReward
	}
	fees, ok := sumOfFees(txs)
	if !ok {
		return record{}, nil, api.ErrFee
	}
	if mint.fee != fees {
		return record{}, nil, api.ErrReward
	}
	return mint, txs, api.OK
}

// sumOfFees: and whether it is one that a mint may have.
func sumOfFees(txs []record) (uint64, bool) {
	var sum uint64
	for _, tx := range txs {
		// Both are below 2^63: so their sum is below 2^64.
		sum += tx.fee
		if sum > mostFee {
			return 0, false
		}
	}
	return sum, true
}

// Undo: the last block is no more.
func (c *Chain) Undo() api.Errno {
	if c.none() {
		return api.ErrArg
	}
	if len(c.blocks) == 0 {
		return api.ErrEmpty
	}
	last := len(c.blocks) - 1
	c.unspent.back(c.blocks[last].taken)
	c.blocks = slices.Delete(c.blocks, last, last+1)
	return api.OK
}

// Height: how many blocks there are.
func (c *Chain) Height() int {
	if c.none() {
		return 0
	}
	return len(c.blocks)
}

// Tip: the hash of the last block.
func (c *Chain) Tip() api.Bytes64 {
	if c.Height() == 0 {
		return api.Bytes64{}
	}
	return c.blocks[len(c.blocks)-1].tip
}

// Has: is that output unspent?
func (c *Chain) Has(commitment api.Bytes32) bool {
	return !c.none() && c.unspent.has(commitment)
}

// Unspent: all unspent outputs, in the order of their bytes.
func (c *Chain) Unspent() []api.Bytes32 {
	if c.none() {
		return nil
	}
	return c.unspent.sorted()
}

// Excesses: the excesses of all kernels, in the order in which they came.
func (c *Chain) Excesses() []api.Bytes32 {
	if c.none() {
		return nil
	}
	var all []api.Bytes32
	for _, b := range c.blocks {
		all = append(all, b.excesses...)
	}
	return all
}

// Supply: what all rewards have issued.
func (c *Chain) Supply() uint64 {
	if c.none() {
		return 0
	}
	return c.rules.Reward * uint64(c.Height())
}

// Root: a hash of the unspent outputs.
func (c *Chain) Root() api.Bytes64 {
	if c.none() {
		return api.Bytes64{}
	}
	var leaves [][]byte
	for _, commitment := range c.unspent.sorted() {
		leaves = append(leaves, commitment[:])
	}
	return hash.Root(leaves...)
}
