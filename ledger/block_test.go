package ledger_test

// P1805: the bytes of a block, and which bytes are one.

import (
	"bytes"
	"crypto/sha512"
	"fmt"
	"math"
	"math/bits"
	"slices"
	"testing"

	"veil/api"
	"veil/ledger"
	"veil/sample"
)

func sumOf(b []byte) api.Bytes64 { return sha512.Sum512(b) }

// isBlock: Block's answer is held byte for byte against the document's words.
func isBlock(t testing.TB, what string, parent api.Bytes64, height int, mint []byte, txs ...[]byte) []byte {
	t.Helper()
	b, e := ledger.Block(parent, height, mint, txs...)
	errno(t, what, e, api.OK)
	if want := (sheet{parent, uint64(height), mint, txs}).bytes(); !bytes.Equal(b, want) {
		t.Errorf("%s: %d bytes that are not the %d that they must be", what, len(b), len(want))
	}
	return b
}

func isNoBlock(t testing.TB, what string, want api.Errno, height int, mint []byte, txs ...[]byte) {
	t.Helper()
	b, e := ledger.Block(api.Bytes64{}, height, mint, txs...)
	errno(t, what, e, want)
	if len(b) != 0 {
		t.Errorf("%s: %d bytes beside an error", what, len(b))
	}
}

// What the mint and the transactions are is not looked at.
func TestP1805ByTheWords(t *testing.T) {
	t.Parallel()
	m := sample.Maker(1805)
	for _, count := range []int{0, 1, 2, 31, 32} {
		var txs [][]byte
		for range count {
			txs = append(txs, m.Bytes(int(m.Next()%300)))
		}
		parent := api.Bytes64(m.Bytes(64))
		b := isBlock(t, fmt.Sprint(count, " transactions"), parent, int(m.Next()%(1<<20))+1, m.Bytes(count*9), txs...)
		s, ok := sheetOf(b)
		if !ok || s.parent != parent || len(s.txs) != count || !bytes.Equal(s.bytes(), b) {
			t.Errorf("%d transactions: no such block", count)
		}
	}
	isBlock(t, "nothing at all", api.Bytes64{}, 1, nil)
	isBlock(t, "transactions of no bytes", api.Bytes64{}, 1, []byte{}, nil, []byte{}, nil)
}

func TestP1805Heights(t *testing.T) {
	t.Parallel()
	for _, height := range []int{1, 127, 128, 16384, 1<<20 - 1, 1 << 20} {
		isBlock(t, fmt.Sprint("height ", height), api.Bytes64{1}, height, []byte{5}, []byte{6})
	}
	for _, height := range []int{0, -1, math.MinInt, 1<<20 + 1, 1 << 40, math.MaxInt} {
		isNoBlock(t, fmt.Sprint("height ", height), api.ErrHeight, height, []byte{5}, []byte{6})
	}
}

func TestP1805Lengths(t *testing.T) {
	t.Parallel()
	long := bytes.Repeat([]byte{7}, 1<<20)
	longer := append(slices.Clone(long), 7)
	isBlock(t, "a long mint", api.Bytes64{}, 1, long)
	isBlock(t, "long transactions", api.Bytes64{}, 1, long, long, nil, long)
	isNoBlock(t, "a longer mint", api.ErrLength, 1, longer)
	for place := range 3 {
		txs := [][]byte{{1}, long, {2}}
		txs[place] = longer
		isNoBlock(t, fmt.Sprint("a longer transaction ", place), api.ErrLength, 1, nil, txs...)
	}
	isBlock(t, "32 transactions", api.Bytes64{}, 1, nil, make([][]byte, 32)...)
	for _, count := range []int{33, 34, 1000} {
		isNoBlock(t, fmt.Sprint(count, " transactions"), api.ErrLength, 1, nil, make([][]byte, count)...)
	}
}

// Of several errors the one named first.
func TestP1805OrderOfErrors(t *testing.T) {
	t.Parallel()
	longer := make([]byte, 1<<20+1)
	for way := 1; way < 1<<4; way++ {
		height, mint, txs := 1, []byte(nil), make([][]byte, 3)
		if way&1 != 0 {
			height = []int{0, 1<<20 + 1}[bits.OnesCount(uint(way))%2]
		}
		if way&2 != 0 {
			txs = make([][]byte, 33)
		}
		if way&4 != 0 {
			mint = longer
		}
		if way&8 != 0 {
			txs[2] = longer
		}
		want := api.ErrLength
		if way&1 != 0 {
			want = api.ErrHeight
		}
		isNoBlock(t, fmt.Sprintf("wrong: %04b", way), want, height, mint, txs...)
	}
}

// formed: is it a block? Such as say another height are ErrHeight then; else they are ErrTx.
func formed(t testing.TB, what string, c *ledger.Chain, b []byte, want bool) {
	t.Helper()
	e := api.ErrTx
	if want {
		e = api.ErrHeight
	}
	errno(t, what, c.Apply(b), e)
	if _, ok := sheetOf(b); ok != want {
		t.Errorf("%s: the reference says otherwise", what)
	}
}

// Which bytes are a block: whatever the mint and the transactions are.
func TestP1806P1811FormsOfBlocks(t *testing.T) {
	t.Parallel()
	c := must[*ledger.Chain](t, "New")(ledger.New(four))
	long := make([]byte, 1<<20)
	longer := make([]byte, 1<<20+1)
	at := func(height uint64, mint []byte, txs ...[]byte) []byte {
		return sheet{api.Bytes64{9}, height, mint, txs}.bytes()
	}
	formed(t, "nothing in it", c, at(2, nil), true)
	formed(t, "something in it", c, at(2, []byte{1, 2, 3}, []byte{4}, nil), true)
	formed(t, "a long mint", c, at(2, long), true)
	formed(t, "a long transaction", c, at(2, nil, nil, long, nil), true)
	formed(t, "32 transactions", c, at(2, nil, make([][]byte, 32)...), true)
	for _, height := range []uint64{0, 2, 127, 128, 1 << 20, 1<<20 + 1, 1<<32 + 1, 1 << 63, 1<<64 - 1} {
		formed(t, fmt.Sprint("height ", height), c, at(height, nil), true)
	}
	formed(t, "a longer mint", c, at(2, longer), false)
	formed(t, "a longer transaction", c, at(2, nil, nil, longer, nil), false)
	formed(t, "33 transactions", c, at(2, nil, make([][]byte, 33)...), false)

	head := slices.Concat([]byte{3}, make([]byte, 64))
	for what, b := range map[string][]byte{
		"no bytes":                      nil,
		"the first byte alone":          {3},
		"a short parent":                head[:64],
		"no height":                     head,
		"no mint":                       slices.Concat(head, []byte{2}),
		"no number of transactions":     slices.Concat(head, []byte{2, 0}),
		"a transaction too few":         slices.Concat(head, []byte{2, 0, 2, 0}),
		"a transaction too many":        slices.Concat(head, []byte{2, 0, 1, 0, 0}),
		"a byte behind":                 slices.Concat(head, []byte{2, 0, 0, 0}),
		"a mint that is too short":      slices.Concat(head, []byte{2, 5, 1, 2, 3}),
		"a transaction too short":       slices.Concat(head, []byte{2, 0, 1, 3, 1, 2}),
		"two bytes for the height":      slices.Concat(head, overlong(2), []byte{0, 0}),
		"two bytes for the mint":        slices.Concat(head, []byte{2}, overlong(0), []byte{0}),
		"two bytes for the number":      slices.Concat(head, []byte{2, 0}, overlong(0)),
		"two bytes for a transaction":   slices.Concat(head, []byte{2, 0, 1}, overlong(1), []byte{7}),
		"a height of 2^64":              slices.Concat(head, bytes.Repeat([]byte{128}, 9), []byte{2, 0, 0}),
		"a mint of 2^64 - 1 bytes":      slices.Concat(head, []byte{2}, number(1<<64-1), []byte{0}),
		"2^64 - 1 transactions":         slices.Concat(head, []byte{2, 0}, number(1<<64-1)),
		"the first byte of a payment":   slices.Concat([]byte{1}, head[1:], []byte{2, 0, 0}),
		"the first byte of a mint":      slices.Concat([]byte{2}, head[1:], []byte{2, 0, 0}),
		"the first byte of nothing":     slices.Concat([]byte{0}, head[1:], []byte{2, 0, 0}),
		"the first byte 4":              slices.Concat([]byte{4}, head[1:], []byte{2, 0, 0}),
		"a first byte of two":           slices.Concat([]byte{131, 0}, head[1:], []byte{2, 0, 0}),
		"a mint in place of a block":    minted(t, four, 1, 0, coin(10, 7)),
		"a payment in place of a block": built(t, four, nil, coins(0, 1), 0),
	} {
		formed(t, what, c, b, false)
	}
	formed(t, "as they were made of", c, slices.Concat(head, []byte{2, 0, 0}), true)
}

// Every beginning of a block, and bytes edited anyhow, are judged as the model judges them.
func TestP1806P1811EditedBlocks(t *testing.T) {
	t.Parallel()
	m := sample.Maker(18052)
	r := ledger.Rules{Bits: 1, Reward: 1}
	p := newPair(t, r)
	p.answers(t, "the first block", next(t, p.chain, minted(t, r, 1, 0, coin(1, 7))), api.OK)
	block := next(t, p.chain, minted(t, r, 2, 0, coin(1, 8)), built(t, r, coins(1, 7), coins(1, 9), 0), built(t, r, coins(1, 9), coins(0, 1, 1, 2), 0))
	for n := range block {
		errno(t, fmt.Sprint("the first ", n), p.chain.Apply(block[:n]), api.ErrTx)
	}
	for range 400 {
		b := edited(&m, block)
		e := p.apply(t, "edited", b)
		if e == api.OK {
			t.Errorf("other bytes are accepted")
			p.undo(t, "edited")
		}
	}
	p.answers(t, "as it is", block, api.OK)
}
