package ledger_test

// P1812: nothing can be changed.

import (
	"fmt"
	"slices"
	"testing"

	"veil/api"
	"veil/ledger"
	"veil/sample"
)

// shares: so many parts of a test run at one time, each with every so-manyth of its cases.
const shares = 8

func inShares(t *testing.T, cases int, one func(t *testing.T, i int)) {
	for share := range shares {
		t.Run(fmt.Sprint(share), func(t *testing.T) {
			t.Parallel()
			for i := share; i < cases; i += shares {
				one(t, i)
			}
		})
	}
}

// open: is a byte of a transaction one of a commitment, of the fee or of the excess?
func open(p paper, at int) bool {
	proof := len(p.outs[0].proof)
	size := len(p.bytes())
	outs := 2 + 32*len(p.ins) + 1
	fee := outs + len(p.outs)*(32+proof)
	switch {
	case at >= 2 && at < outs-1:
		return true
	case at >= outs && at < fee:
		return (at-outs)%(32+proof) < 32
	}
	return at >= fee && at < size-64
}

// turnedTx: a transaction with one bit turned is not accepted, and by what it is refused is what the reference says.
func turnedTx(t *testing.T, r ledger.Rules, p paper, bit int) {
	tx := p.bytes()
	tx[bit/8] ^= 1 << (bit % 8)
	e := ledger.CheckTx(r, tx)
	if e != wantCheck(r, tx) {
		t.Errorf("bit %d of byte %d: %d, want %d", bit%8, bit/8, e, wantCheck(r, tx))
	}
	if e == api.OK || e == api.ErrParams || open(p, bit/8) && e != api.ErrTx && e != api.ErrRange && e != api.ErrBalance {
		t.Errorf("bit %d of byte %d: %d", bit%8, bit/8, e)
	}
}

// Every bit of a transaction of values of one bit.
func TestP1812EveryBit(t *testing.T) {
	t.Parallel()
	r := ledger.Rules{Bits: 1, Reward: 1}
	p := deal{r, 1, 0, coins(300, 5, 1, 6), coins(1, 1, 0, 2), 300, stream(r, "a", 2)}.paper(t)
	errno(t, "as it is", ledger.CheckTx(r, p.bytes()), api.OK)
	inShares(t, 8*len(p.bytes()), func(t *testing.T, bit int) { turnedTx(t, r, p, bit) })
}

// Some bits of others.
func TestP1812SomeBits(t *testing.T) {
	t.Parallel()
	m := sample.Maker(1812)
	for _, n := range []int{4, 64} {
		r := ledger.Rules{Bits: n}
		in, out, fee := payment(&m, n, 3, 2)
		p := deal{r, 1, 0, in, out, fee, m.Bytes(wanted(n, 2))}.paper(t)
		errno(t, "as it is", ledger.CheckTx(r, p.bytes()), api.OK)
		const apart = 67 // of no multiple of 8: so all bits of a byte come up
		inShares(t, 8*len(p.bytes())/apart, func(t *testing.T, i int) { turnedTx(t, r, p, i*apart+n) })
	}
}

// Every bit of a block: it is refused, whatever it is, and the chain stays as it was.
func TestP1812EveryBitOfABlock(t *testing.T) {
	t.Parallel()
	r := ledger.Rules{Bits: 1, Reward: 1}
	one := must[[]byte](t, "Block")(ledger.Block(api.Bytes64{}, 1, minted(t, r, 1, 0, coin(1, 7))))
	two := must[[]byte](t, "Block")(ledger.Block(sumOf(one), 2, minted(t, r, 2, 0, coin(1, 8)), built(t, r, coins(1, 7), coins(1, 9), 0)))
	for share := range shares {
		t.Run(fmt.Sprint(share), func(t *testing.T) {
			t.Parallel()
			p := newPair(t, r)
			p.answers(t, "the first block", one, api.OK)
			before := p.model.now()
			for bit := share; bit < 8*len(two); bit += shares {
				b := slices.Clone(two)
				b[bit/8] ^= 1 << (bit % 8)
				e := p.chain.Apply(b)
				if e == api.OK || p.chain.Height() != 1 || p.chain.Tip() != before.tip || !slices.Equal(p.chain.Unspent(), before.unspent) {
					t.Fatalf("bit %d of byte %d: %d, height %d", bit%8, bit/8, e, p.chain.Height())
				}
				if bit%5 == 0 {
					errno(t, fmt.Sprint("bit ", bit), e, p.model.apply(b))
				}
			}
			p.answers(t, "the second block", two, api.OK)
		})
	}
}
