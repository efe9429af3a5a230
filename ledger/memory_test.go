package ledger_test

// P1801: the document's rules: what is handed in is left alone and not kept, what is handed out is new, nil and zero chains, any bytes.

import (
	"bytes"
	"fmt"
	"slices"
	"testing"

	"veil/api"
	"veil/ledger"
	"veil/sample"
	"veil/scalar"
)

// behind: the list with others behind it, in its spare room.
func behind[T any](list []T, others ...T) []T {
	return append(append(make([]T, 0, len(list)+len(others)), list...), others...)[:len(list)]
}

// whole: a list with the room behind it.
func whole[T any](list []T) []T { return list[:cap(list)] }

// handed: all that calls are handed.
type handed struct {
	in, out      []ledger.Coin
	stream       []byte
	tx, mint     []byte
	txs          [][]byte
	first, block []byte
}

func newHanded(t testing.TB) handed {
	t.Helper()
	more := coins(1, 91, 2, 92)
	in, out := coins(50, 7), coins(30, 1, 19, 2)
	in[0].Blind = sample.Scalars(sample.NumberOf(in[0].Blind))[3]
	h := handed{in: behind(in, more...), out: behind(out, more...), stream: behind(stream(eight, "a", 2), 1, 2, 3)}
	tx := built(t, eight, in, out, 1)
	mint := minted(t, eight, 2, 1, coin(51, 9))
	first := must[[]byte](t, "Block")(ledger.Block(api.Bytes64{}, 1, minted(t, eight, 1, 0, coin(50, 7))))
	h.tx, h.mint, h.first = behind(tx, 5, 6), behind(mint, 7), behind(first, 8)
	h.txs = behind([][]byte{h.tx}, []byte{9}, []byte{10})
	h.block = behind(must[[]byte](t, "Block")(ledger.Block(sumOf(first), 2, mint, tx)), 11)
	return h
}

// state: all of it, the room behind it too.
func (h handed) state() string {
	var all [][]byte
	for _, tx := range whole(h.txs) {
		all = append(all, whole(tx))
	}
	return fmt.Sprint(whole(h.in), whole(h.out), whole(h.stream), whole(h.tx), whole(h.mint), all, whole(h.first), whole(h.block))
}

// answers: what all calls say of it.
func (h handed) answers(t testing.TB) string {
	t.Helper()
	tx, key, e := ledger.Build(eight, h.in, h.out, 1, h.stream)
	mint, f := ledger.Mint(eight, 3, 0, coin(50, 5), h.stream)
	block, g := ledger.Block(api.Bytes64{5}, 2, h.mint, h.txs...)
	check := ledger.CheckTx(eight, h.tx)
	c := must[*ledger.Chain](t, "New")(ledger.New(eight))
	one, two := c.Apply(h.first), c.Apply(h.block)
	return fmt.Sprint(tx, key, e, mint, f, block, g, check, one, two, c.Height(), c.Tip(), c.Unspent(), c.Excesses(), c.Root())
}

func TestP1801HandedInIsLeft(t *testing.T) {
	t.Parallel()
	h := newHanded(t)
	before := h.state()
	want := h.answers(t)
	if h.state() != before {
		t.Errorf("what was handed in is changed")
	}
	if h.answers(t) != want || h.state() != before {
		t.Errorf("a second time all is otherwise")
	}
	// Nor is it where there are errors.
	h.in[0].V++
	before = h.state()
	ledger.Build(eight, h.in, h.out, 1, h.stream)
	ledger.Build(eight, h.in, h.out, 2, h.stream[:5])
	ledger.Mint(eight, 3, 1, coin(50, 5), h.stream)
	ledger.CheckTx(four, h.tx)
	ledger.CheckTx(eight, h.mint)
	ledger.Block(api.Bytes64{}, 0, h.mint, h.txs...)
	c := must[*ledger.Chain](t, "New")(ledger.New(eight))
	c.Apply(h.block)
	c.Apply(h.tx)
	if h.state() != before {
		t.Errorf("what was handed in is changed where there is an error")
	}
}

// What is written over behind a call changes nothing.
func TestP1801NothingIsKept(t *testing.T) {
	t.Parallel()
	p, h := newPair(t, eight), newHanded(t)
	for _, b := range [][]byte{h.first, h.block} {
		p.answers(t, "a block", b, api.OK)
		now := p.model.now()
		for i := range whole(b) {
			whole(b)[i] ^= 255
		}
		now.is(t, "written over", p.chain)
	}
	p.undo(t, "written over")
	p.undo(t, "written over")

	h = newHanded(t)
	tx, _, _ := ledger.Build(eight, h.in, h.out, 1, h.stream)
	mint, _ := ledger.Mint(eight, 3, 0, coin(50, 5), h.stream)
	block, _ := ledger.Block(api.Bytes64{}, 2, h.mint, h.txs...)
	kept := fmt.Sprint(tx, mint, block)
	clear(whole(h.in))
	clear(whole(h.out))
	for _, b := range [][]byte{h.stream, h.tx, h.mint} {
		clear(whole(b))
	}
	if fmt.Sprint(tx, mint, block) != kept {
		t.Errorf("an answer shares memory with what was handed in")
	}
}

// Whoever writes into what was answered, or appends to it, changes nothing else.
func TestP1801HandedOutIsNew(t *testing.T) {
	t.Parallel()
	p, h := newPair(t, eight), newHanded(t)
	p.answers(t, "the first block", h.first, api.OK)
	p.answers(t, "the second block", h.block, api.OK)
	now, before, want := p.model.now(), h.state(), h.answers(t)
	other := p.chain.Unspent()
	for range 2 {
		for _, list := range [][]api.Bytes32{p.chain.Unspent(), p.chain.Excesses()} {
			for i := range whole(list) {
				whole(list)[i] = api.Bytes32{9}
			}
			_ = append(list, api.Bytes32{8})
		}
		tx, _, _ := ledger.Build(eight, h.in, h.out, 1, h.stream)
		mint, _ := ledger.Mint(eight, 3, 0, coin(50, 5), h.stream)
		block, _ := ledger.Block(api.Bytes64{}, 2, h.mint, h.txs...)
		for _, b := range [][]byte{tx, mint, block} {
			clear(whole(b))
		}
		now.is(t, "behind what was written", p.chain)
		if h.state() != before || h.answers(t) != want || !slices.Equal(other, now.unspent) {
			t.Errorf("what was written into an answer is seen elsewhere")
		}
	}
	p.undo(t, "behind what was written")
}

// Two chains are not seen by each other, of whatever rules.
func TestP1801TwoChains(t *testing.T) {
	t.Parallel()
	a, b, h := newPair(t, eight), newPair(t, eight), newHanded(t)
	c := newPair(t, ledger.Rules{Bits: 8, Reward: 51})
	a.answers(t, "a", h.first, api.OK)
	b.model.now().is(t, "b", b.chain)
	c.answers(t, "c", h.first, api.ErrBalance)
	b.answers(t, "b", h.first, api.OK)
	a.answers(t, "a", h.block, api.OK)
	b.model.now().is(t, "b", b.chain)
	b.undo(t, "b")
	a.model.now().is(t, "a", a.chain)
	a.undo(t, "a")
	b.answers(t, "b", h.block, api.ErrHeight)
	b.answers(t, "b", h.first, api.OK)
	b.answers(t, "b", h.block, api.OK)
}

// A nil Chain, and one that New did not make.
func TestP1801NoChain(t *testing.T) {
	t.Parallel()
	h := newHanded(t)
	for what, c := range map[string]*ledger.Chain{"nil": nil, "zero": {}, "new": new(ledger.Chain)} {
		for _, b := range [][]byte{nil, h.first, h.block} {
			errno(t, what+": Apply", c.Apply(b), api.ErrArg)
		}
		errno(t, what+": Undo", c.Undo(), api.ErrArg)
		if c.Height() != 0 || c.Tip() != (api.Bytes64{}) || c.Has(api.Bytes32{}) || len(c.Unspent()) != 0 || len(c.Excesses()) != 0 || c.Supply() != 0 || c.Root() != (api.Bytes64{}) {
			t.Errorf("%s: something is told", what)
		}
	}
}

// Lists that are nil and such that are empty are the same.
func TestP1801NilAndEmpty(t *testing.T) {
	t.Parallel()
	r := ledger.Rules{Bits: 1}
	a, key, e := ledger.Build(r, nil, coins(0, 3), 0, stream(r, "a", 1))
	b, other, f := ledger.Build(r, []ledger.Coin{}, coins(0, 3), 0, stream(r, "a", 1))
	if !bytes.Equal(a, b) || key != other || e != f || e != api.OK {
		t.Errorf("no inputs: %d, %d", e, f)
	}
	for _, out := range [][]ledger.Coin{nil, {}} {
		for _, s := range [][]byte{nil, {}} {
			isRefused(t, "no outputs", api.ErrLength, r, nil, out, 0, s)
			isRefused(t, "no stream", api.ErrShort, r, nil, coins(0, 3), 0, s)
			errno(t, "no bytes", ledger.CheckTx(r, s), api.ErrTx)
			p := newPair(t, r)
			p.answers(t, "no bytes", s, api.ErrTx)
			isBlock(t, "no bytes", api.Bytes64{}, 1, s, s)
		}
	}
	isBlock(t, "an empty list", api.Bytes64{}, 1, nil, [][]byte{}...)
}

// Any bytes, many of which begin as a record does: every call ends, and says what the reference says.
func TestP1801AnyBytes(t *testing.T) {
	t.Parallel()
	m := sample.Maker(1801)
	r := ledger.Rules{Bits: 1, Reward: 1}
	p := newPair(t, r)
	for range 600 {
		b := m.Bytes(int(m.Next() % 900))
		for i := range b {
			if m.Next()%4 != 0 { // zeros are elements, scalars and numbers
				b[i] = 0
			}
		}
		if len(b) > 80 {
			b[0] = byte(m.Next() % 4)
			if m.Next()%2 == 0 {
				clear(b[2:])
				b[2+m.Next()%70] = byte(m.Next() % 3)
			}
		}
		errno(t, fmt.Sprintf("CheckTx of %x", b), ledger.CheckTx(r, b), wantCheck(r, b))
		if p.apply(t, fmt.Sprintf("Apply of %x", b), b) == api.OK {
			t.Fatalf("any bytes are a block")
		}
	}
}

// Papers of zeros: they have the form, and are judged.
func TestP1801Zeros(t *testing.T) {
	t.Parallel()
	for _, n := range allBits {
		r := ledger.Rules{Bits: n, Reward: 1}
		zero := paper{kind: 1, outs: []shown{{proof: make([]byte, api.Params{Bits: n, Count: 1}.Length())}}}
		want := wantCheck(r, zero.bytes())
		errno(t, fmt.Sprint(n, " bits"), ledger.CheckTx(r, zero.bytes()), want)
		if want == api.OK || want == api.ErrTx {
			t.Errorf("%d bits: zeros: %d", n, want)
		}
		zero.kind, zero.height = 2, 1
		p := newPair(t, r)
		p.apply(t, fmt.Sprint(n, " bits"), sheet{api.Bytes64{}, 1, zero.bytes(), nil}.bytes())
	}
}

// Beside an error there is nothing.
func TestP1801NothingBesideAnError(t *testing.T) {
	t.Parallel()
	tx, key, e := ledger.Build(eight, coins(1, 2), coins(2, 3), 0, stream(eight, "a", 1))
	if tx != nil || key != (scalar.Scalar{}) || e != api.ErrBalance {
		t.Errorf("Build: %v, %v, %d", tx, key, e)
	}
	mint, e := ledger.Mint(eight, 1, 0, coin(1, 2), stream(eight, "a", 1))
	if mint != nil || e != api.ErrReward {
		t.Errorf("Mint: %v, %d", mint, e)
	}
	block, e := ledger.Block(api.Bytes64{}, 0, nil)
	if block != nil || e != api.ErrHeight {
		t.Errorf("Block: %v, %d", block, e)
	}
}
