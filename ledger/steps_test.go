package ledger_test

// P1806: the steps of a block in their order; one that is refused changes nothing.

import (
	"fmt"
	"slices"
	"testing"

	"veil/api"
	"veil/ledger"
	"veil/sample"
)

// Faults of a block, in the order in which they are found.
const (
	restFault = iota
	heightFault
	parentFault
	mintForm
	txForm0
	txForm1
	mintHeight
	feesTooGreat
	mintFees
	spent0
	there0
	spent1
	there1
	mintThere
	mintRange
	mintBalance
	mintSign
	range0
	balance0
	sign0
	range1
	balance1
	sign1
	allFaults
)

// errnos: what is answered to each of them.
func errnos() [allFaults]api.Errno {
	list := [allFaults]api.Errno{
		restFault: api.ErrTx, heightFault: api.ErrHeight, parentFault: api.ErrParent,
		mintForm: api.ErrTx, txForm0: api.ErrTx, txForm1: api.ErrTx,
		mintHeight: api.ErrReward, feesTooGreat: api.ErrFee, mintFees: api.ErrReward,
		spent0: api.ErrSpent, there0: api.ErrThere, spent1: api.ErrSpent, there1: api.ErrThere, mintThere: api.ErrThere,
	}
	for _, from := range []int{mintRange, range0, range1} {
		copy(list[from:], []api.Errno{api.ErrRange, api.ErrBalance, api.ErrSign})
	}
	return list
}

// set: of faults.
type set uint64

func (s set) has(fault int) bool { return s>>fault&1 == 1 }

func of(faults ...int) set {
	var s set
	for _, f := range faults {
		s |= 1 << f
	}
	return s
}

// answer: that of the first of them.
func (s set) answer() api.Errno {
	for fault, e := range errnos() {
		if s.has(fault) {
			return e
		}
	}
	return api.OK
}

// behindFour: a chain with the unspent coins (8, 400), (12, 300), (10, 101), (10, 102), and (0, 500), (0, 501) of no value.
func behindFour(t testing.TB) pair {
	t.Helper()
	p := newPair(t, four)
	for i, blind := range []uint64{101, 102, 103} {
		p.answers(t, "a block", next(t, p.chain, minted(t, four, i+1, 0, coin(10, blind))), api.OK)
	}
	zeros := built(t, four, nil, coins(0, 500, 0, 501), 0)
	two := built(t, four, coins(10, 103), coins(8, 400), 2)
	p.answers(t, "the fourth block", next(t, p.chain, minted(t, four, 4, 2, coin(12, 300)), zeros, two), api.OK)
	return p
}

// block: the fifth block of that chain with these faults, and none that is found ahead of the first of them.
func (s set) block(t testing.TB, parent api.Bytes64) []byte {
	t.Helper()
	tx0 := deal{four, 1, 0, coins(10, 101), coins(6, 201, 3, 202), 1, stream(four, "tx0", 3)}
	tx1 := deal{four, 1, 0, coins(10, 102), coins(9, 203), 1, stream(four, "tx1", 2)}
	mint := deal{four, 2, 5, nil, coins(12, 301), 2, stream(four, "mint", 1)}
	block := sheet{parent: parent, height: 5}
	if s.has(heightFault) {
		block.height, mint.height = 6, 6
	}
	if s.has(parentFault) {
		block.parent[63] ^= 1
	}
	if s.has(mintHeight) {
		mint.height++
	}
	if s.has(mintThere) {
		mint.out = coins(12, 300)
	}
	if s.has(mintFees) {
		mint.out, mint.fee = coins(13, 301), 3
	}
	if s.has(feesTooGreat) { // such coins are not there, either: that is found later
		tx0.in[0].V, tx0.fee = 1<<62+9, 1<<62
		tx1.in[0].V, tx1.fee = 1<<62+9, 1<<62
	}
	for i, d := range []*deal{&tx0, &tx1} {
		if s.has([]int{spent0, spent1}[i]) {
			d.in = append(d.in, coin(0, uint64(600+i)))
		}
		if s.has([]int{there0, there1}[i]) {
			d.out = append(d.out, coin(0, uint64(500+i)))
		}
	}
	block.mint = mint.spoilt(t, faults{s.has(mintForm), s.has(mintRange), s.has(mintBalance), s.has(mintSign)})
	block.txs = [][]byte{
		tx0.spoilt(t, faults{s.has(txForm0), s.has(range0), s.has(balance0), s.has(sign0)}),
		tx1.spoilt(t, faults{s.has(txForm1), s.has(range1), s.has(balance1), s.has(sign1)}),
	}
	if s.has(restFault) {
		return append(block.bytes(), 0)
	}
	return block.bytes()
}

// Each fault alone, every two of them, all from each on, and any number of them.
func TestP1806OrderOfSteps(t *testing.T) {
	t.Parallel()
	m := sample.Maker(1806)
	sets := []set{0}
	for i := range allFaults {
		sets = append(sets, of(i), set(1)<<allFaults-1<<i)
		for j := range i {
			sets = append(sets, of(i, j))
		}
	}
	for range 60 {
		sets = append(sets, set(m.Next()&m.Next()&m.Next())&(1<<allFaults-1), set(m.Next())&(1<<allFaults-1)<<(m.Next()%allFaults)&(1<<allFaults-1))
	}
	for share := range shares {
		t.Run(fmt.Sprint(share), func(t *testing.T) {
			t.Parallel()
			p := behindFour(t)
			parent := p.chain.Tip()
			for i := share; i < len(sets); i += shares {
				s := sets[i]
				p.answers(t, fmt.Sprintf("faults %023b", s), s.block(t, parent), s.answer())
				if s.answer() == api.OK {
					p.undo(t, "a block without a fault")
				}
			}
			p.answers(t, "a block without a fault", set(0).block(t, parent), api.OK)
			p.answers(t, "the same again", set(0).block(t, parent), api.ErrHeight)
		})
	}
}

// Heights and parents that are others.
func TestP1806HeightsAndParents(t *testing.T) {
	t.Parallel()
	p := behindFour(t)
	mint := minted(t, four, 5, 0, coin(10, 600))
	tip := p.chain.Tip()
	for _, height := range []uint64{0, 1, 3, 4, 6, 5 + 1<<7, 1 << 20, 1<<20 + 1, 1<<32 + 5, 1<<63 + 5, 1<<64 - 1} {
		p.answers(t, fmt.Sprint("height ", height), sheet{tip, height, mint, nil}.bytes(), api.ErrHeight)
	}
	below := p.model.moments[3].tip
	for i, parent := range []api.Bytes64{{}, below, {1}} {
		p.answers(t, fmt.Sprint("parent ", i), sheet{parent, 5, mint, nil}.bytes(), api.ErrParent)
		p.answers(t, fmt.Sprint("parent ", i, " and the height"), sheet{parent, 6, mint, nil}.bytes(), api.ErrHeight)
	}
	for i := range tip {
		other := tip
		other[i] ^= 128
		p.answers(t, fmt.Sprint("byte ", i, " of the parent"), sheet{other, 5, mint, nil}.bytes(), api.ErrParent)
	}
	p.answers(t, "as it must be", sheet{tip, 5, mint, nil}.bytes(), api.OK)
}

// Mints that are of no use: no mint, of another height, another reward or other fees.
func TestP1806Mints(t *testing.T) {
	t.Parallel()
	p := behindFour(t)
	tip := p.chain.Tip()
	on := func(mint []byte, txs ...[]byte) []byte { return sheet{tip, 5, mint, txs}.bytes() }
	good := deal{four, 2, 5, nil, coins(10, 600), 0, stream(four, "a", 1)}
	b := good.paper(t).bytes()
	for what, mint := range map[string][]byte{
		"no bytes":                  nil,
		"a transaction":             built(t, four, nil, coins(0, 1), 0),
		"a byte behind":             append(slices.Clone(b), 0),
		"without its end":           b[:len(b)-1],
		"without its front":         b[1:],
		"two bytes for the height":  slices.Concat(b[:1], overlong(5), b[2:]),
		"two bytes for the fees":    slices.Concat(b[:2], overlong(0), b[3:]),
		"fees of 2^63":              slices.Concat(b[:2], number(1<<63), b[3:]),
		"a number of outputs":       slices.Concat(b[:3], number(1), b[3:]),
		"another number of bits":    minted(t, ledger.Rules{Bits: 8, Reward: 10}, 5, 0, coin(10, 600)),
		"an excess that is none":    slices.Concat(b[:len(b)-96], []byte{1}, make([]byte, 31), b[len(b)-64:]),
		"a commitment that is none": slices.Concat(b[:3], []byte{1}, make([]byte, 31), b[35:]),
		"an answer that is none":    slices.Concat(b[:len(b)-32], sample.Bytes(sample.L(), 32)),
		"a challenge that is none":  slices.Concat(b[:len(b)-64], sample.Bytes(sample.L(), 32), b[len(b)-32:]),
		"a scalar that is none":     slices.Concat(b[:35+4*32], sample.Bytes(sample.L(), 32), b[35+5*32:]),
	} {
		p.answers(t, what, on(mint), api.ErrTx)
	}
	for _, height := range []uint64{0, 4, 6, 133, 1<<32 + 5, 1<<64 - 1} {
		d := good
		d.height = height
		p.answers(t, fmt.Sprint("the height ", height), on(d.paper(t).bytes()), api.ErrReward)
	}
	for _, fees := range []uint64{1, 5, 1 << 32, 1<<63 - 1} {
		d := good
		d.fee = fees
		p.answers(t, fmt.Sprint("the fees ", fees), on(d.paper(t).bytes()), api.ErrReward)
	}
	for _, v := range []uint64{0, 9, 11, 15} {
		d := good
		d.out = coins(v, 600)
		p.answers(t, fmt.Sprint("the reward ", v), on(d.paper(t).bytes()), api.ErrBalance)
	}
	p.answers(t, "signed as a transaction", on(asTransaction(t, good)), api.ErrSign)
	p.answers(t, "as it must be", on(b), api.OK)
}

// asTransaction: the mint, but what its kernel signs has the tag of a transaction.
func asTransaction(t testing.TB, d deal) []byte {
	t.Helper()
	p := d.paper(t)
	b := p.body()
	tagged := sumOf(slices.Concat([]byte("veil tx"), b, p.excess[:]))
	s := signature(t, d.key(), d.nonce(), tagged[:])
	return slices.Concat(b, p.excess[:], s)
}

// Fees whose sum is 2^63 or more, 2^64 and more among them, so that modulo 2^64 it would be small.
func TestP1806SumsOfFees(t *testing.T) {
	t.Parallel()
	p := behindFour(t)
	tip := p.chain.Tip()
	paying := func(i int, fee uint64) []byte {
		return built(t, four, []ledger.Coin{coin(fee, uint64(700+i))}, []ledger.Coin{coin(0, uint64(800+i))}, fee)
	}
	const half = 1 << 63
	for _, c := range []struct {
		fees []uint64
		mint uint64
		want api.Errno
	}{
		{[]uint64{half - 1, 1}, half - 1, api.ErrFee},
		{[]uint64{half - 1, 1}, 0, api.ErrFee},
		{[]uint64{1 << 62, 1 << 62}, 0, api.ErrFee},
		{[]uint64{half - 1, half - 1, 2}, 0, api.ErrFee},
		{[]uint64{half - 1, half - 1, 3}, 1, api.ErrFee},
		{[]uint64{half - 1, half - 1, half - 1, half - 1, 4}, 0, api.ErrFee},
		{[]uint64{half - 1, half - 1, half - 1, half - 1, 5}, 1, api.ErrFee},
		{[]uint64{half - 1}, half - 1, api.ErrSpent},
		{[]uint64{1, half - 2}, half - 1, api.ErrSpent},
		{[]uint64{half - 1}, half - 2, api.ErrReward},
		{[]uint64{half - 1}, 0, api.ErrReward},
		{[]uint64{1, 2, 3}, 6, api.ErrSpent},
		{[]uint64{1, 2, 3}, 5, api.ErrReward},
		{[]uint64{1, 2, 3}, 7, api.ErrReward},
		{[]uint64{1, 2, 3}, 0, api.ErrReward},
	} {
		var txs [][]byte
		for i, fee := range c.fees {
			txs = append(txs, paying(i, fee))
		}
		mint := deal{four, 2, 5, nil, coins(10, 600), c.mint, stream(four, "a", 1)}.paper(t).bytes()
		p.answers(t, fmt.Sprint(c.fees, " and ", c.mint), sheet{tip, 5, mint, txs}.bytes(), c.want)
	}
}
