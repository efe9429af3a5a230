package ledger_test

// P1804 and P1811: which bytes are a transaction, and what is wrong with one.

import (
	"bytes"
	"encoding/binary"
	"fmt"
	"slices"
	"testing"

	"veil/api"
	"veil/hash"
	"veil/ledger"
	"veil/sample"
	"veil/scalar"
)

// four: rules with few bits, so that proofs are short.
var four = ledger.Rules{Bits: 4, Reward: 10}

// ordinary: a payment with two inputs, two outputs and a fee of two bytes.
func ordinary() deal {
	return deal{four, 1, 0, coins(12, 5, 300, 6), coins(7, 1, 5, 2), 300, stream(four, "ordinary", 2)}
}

// checked: CheckTx's answer is the one that is known, and the reference's.
func checked(t testing.TB, what string, r ledger.Rules, tx []byte, want api.Errno) {
	t.Helper()
	errno(t, what, ledger.CheckTx(r, tx), want)
	errno(t, what+": the reference", wantCheck(r, tx), want)
}

// overlong: a number with a byte more than it must have.
func overlong(n uint64) []byte {
	b := binary.AppendUvarint(nil, n)
	b[len(b)-1] |= 128
	return append(b, 0)
}

// number: as the wire writes it.
func number(n uint64) []byte { return binary.AppendUvarint(nil, n) }

// pieces: the bytes of a transaction, cut.
type pieces struct{ kind, ins, inList, outs, outList, fee, kernel []byte }

func piecesOf(p paper) pieces {
	c := pieces{kind: []byte{p.kind}, ins: number(uint64(len(p.ins))), outs: number(uint64(len(p.outs))), fee: number(p.fee)}
	for _, in := range p.ins {
		c.inList = append(c.inList, in[:]...)
	}
	for _, out := range p.outs {
		c.outList = append(append(c.outList, out.commitment[:]...), out.proof...)
	}
	c.kernel = slices.Concat(p.excess[:], p.c[:], p.answer[:])
	return c
}

func (c pieces) bytes() []byte {
	return slices.Concat(c.kind, c.ins, c.inList, c.outs, c.outList, c.fee, c.kernel)
}

func TestP1804Forms(t *testing.T) {
	t.Parallel()
	good := piecesOf(ordinary().paper(t))
	checked(t, "as it is", four, good.bytes(), api.OK)
	out := len(good.outList) / 2
	for what, spoil := range map[string]func(c *pieces){
		"no first byte":               func(c *pieces) { c.kind = nil },
		"the first byte of nothing":   func(c *pieces) { c.kind = []byte{0} },
		"the first byte of a mint":    func(c *pieces) { c.kind = []byte{2} },
		"the first byte of a block":   func(c *pieces) { c.kind = []byte{3} },
		"the first byte 4":            func(c *pieces) { c.kind = []byte{4} },
		"the first byte 255":          func(c *pieces) { c.kind = []byte{255} },
		"a first byte of two":         func(c *pieces) { c.kind = overlong(1) },
		"two first bytes":             func(c *pieces) { c.kind = []byte{1, 1} },
		"two bytes for the inputs":    func(c *pieces) { c.ins = overlong(2) },
		"two bytes for the outputs":   func(c *pieces) { c.outs = overlong(2) },
		"three bytes for the fee":     func(c *pieces) { c.fee = overlong(300) },
		"a fee of 2^63":               func(c *pieces) { c.fee = number(1 << 63) },
		"a fee of 2^64 - 1":           func(c *pieces) { c.fee = number(1<<64 - 1) },
		"a fee of 2^64":               func(c *pieces) { c.fee = append(bytes.Repeat([]byte{128}, 9), 2) },
		"a fee of eleven bytes":       func(c *pieces) { c.fee = append(bytes.Repeat([]byte{128}, 10), 1) },
		"no fee":                      func(c *pieces) { c.fee = nil },
		"falling inputs":              func(c *pieces) { c.inList = slices.Concat(c.inList[32:], c.inList[:32]) },
		"the same input twice":        func(c *pieces) { c.inList = slices.Concat(c.inList[:32], c.inList[:32]) },
		"the second input twice":      func(c *pieces) { c.inList = slices.Concat(c.inList[32:], c.inList[32:]) },
		"falling outputs":             func(c *pieces) { c.outList = slices.Concat(c.outList[out:], c.outList[:out]) },
		"the same output twice":       func(c *pieces) { c.outList = slices.Concat(c.outList[:out], c.outList[:out]) },
		"the second output twice":     func(c *pieces) { c.outList = slices.Concat(c.outList[out:], c.outList[out:]) },
		"no output":                   func(c *pieces) { c.outs, c.outList = number(0), nil },
		"an input too many":           func(c *pieces) { c.ins = number(3) },
		"an input too few":            func(c *pieces) { c.ins = number(1) },
		"an output too many":          func(c *pieces) { c.outs = number(3) },
		"an output too few":           func(c *pieces) { c.outs = number(1) },
		"2^32 inputs":                 func(c *pieces) { c.ins = number(1 << 32) },
		"2^64 - 1 outputs":            func(c *pieces) { c.outs = number(1<<64 - 1) },
		"a byte behind the proof":     func(c *pieces) { c.outList = append(slices.Clone(c.outList), 0) },
		"a proof without its end":     func(c *pieces) { c.outList = c.outList[:len(c.outList)-1] },
		"a proof without its last 32": func(c *pieces) { c.outList = c.outList[:len(c.outList)-32] },
		"a proof of 64 bytes more":    func(c *pieces) { c.outList = append(slices.Clone(c.outList), make([]byte, 64)...) },
		"a length ahead of the proof": func(c *pieces) {
			c.outList = slices.Concat(c.outList[:32], number(uint64(out-32)), c.outList[32:])
		},
		"no kernel":               func(c *pieces) { c.kernel = nil },
		"a kernel without an end": func(c *pieces) { c.kernel = c.kernel[:95] },
		"a byte behind":           func(c *pieces) { c.kernel = append(slices.Clone(c.kernel), 0) },
		"a second kernel":         func(c *pieces) { c.kernel = slices.Concat(c.kernel, c.kernel) },
	} {
		spoilt := good
		spoil(&spoilt)
		checked(t, what, four, spoilt.bytes(), api.ErrTx)
	}
}

// Every beginning of a transaction, and bytes around it.
func TestP1804Cut(t *testing.T) {
	t.Parallel()
	r := ledger.Rules{Bits: 1, Reward: 1}
	tx := built(t, r, coins(1, 5), coins(1, 1), 0)
	for n := range tx {
		errno(t, fmt.Sprint("the first ", n), ledger.CheckTx(r, tx[:n]), api.ErrTx)
		if n > 0 {
			errno(t, fmt.Sprint("from ", n, " on"), ledger.CheckTx(r, tx[n:]), api.ErrTx)
		}
	}
	for _, more := range [][]byte{{0}, {1}, {255}, tx[len(tx)-96:], tx} {
		checked(t, "more behind", r, slices.Concat(tx, more), api.ErrTx)
		checked(t, "more ahead", r, slices.Concat(more, tx), api.ErrTx)
	}
	checked(t, "no bytes", r, nil, api.ErrTx)
	checked(t, "a mint", r, minted(t, r, 1, 0, coin(1, 1)), api.ErrTx)
	checked(t, "a block", r, must[[]byte](t, "Block")(ledger.Block(api.Bytes64{}, 1, tx, tx)), api.ErrTx)
	checked(t, "as it is", r, tx, api.OK)
}

// noElements: 32 bytes that are none, by all ways: odd, p and more, no square, y = 0.
func noElements() []api.Bytes32 {
	list := []api.Bytes32{{1}, {2}, api.Bytes32(bytes.Repeat([]byte{255}, 32)), api.Bytes32(bytes.Repeat([]byte{254}, 32)), sample.Bytes32(sample.P())}
	last := sample.Bytes32(sample.P())
	last[0]--
	return append(list, last)
}

// Each element and each scalar of a transaction, in the proofs too.
func TestP1804NotCanonical(t *testing.T) {
	t.Parallel()
	tx := ordinary().paper(t).bytes()
	elements := []int{2, 34, len(tx) - 96}
	scalars := []int{len(tx) - 64, len(tx) - 32}
	proof := 32 * (9 + 4)
	for i := range 2 {
		at := 2 + 64 + 1 + i*(32+proof)
		elements = append(elements, at)
		for place := range proof / 32 {
			if place >= 4 && place < 7 || place >= 11 {
				scalars = append(scalars, at+32+32*place)
			} else {
				elements = append(elements, at+32+32*place)
			}
		}
	}
	for _, at := range elements {
		for _, b := range noElements() {
			checked(t, fmt.Sprint("no element at ", at), four, slices.Concat(tx[:at], b[:], tx[at+32:]), api.ErrTx)
		}
	}
	for _, at := range scalars {
		more := sample.Number(tx[at : at+32])
		for _, n := range [][]byte{sample.Bytes(sample.L(), 32), sample.Bytes(more.Add(more, sample.L()), 32), bytes.Repeat([]byte{255}, 32)} {
			checked(t, fmt.Sprint("no scalar at ", at), four, slices.Concat(tx[:at], n, tx[at+32:]), api.ErrTx)
		}
	}
}

// What is right in all but its number of inputs or outputs, or its fee.
func TestP1804Limits(t *testing.T) {
	t.Parallel()
	r := ledger.Rules{Bits: 1}
	many := func(n int) []ledger.Coin {
		var list []ledger.Coin
		for i := range n {
			list = append(list, coin(0, uint64(1000+i)))
		}
		return list
	}
	for _, c := range []struct {
		ins, outs int
		fee       uint64
		want      api.Errno
	}{{0, 1, 0, api.OK}, {16, 1, 0, api.OK}, {17, 1, 0, api.ErrTx}, {1, 16, 0, api.OK}, {1, 17, 0, api.ErrTx}, {16, 16, 0, api.OK}, {1, 0, 0, api.ErrTx}, {0, 0, 0, api.ErrTx}, {1, 1, 1<<63 - 1, api.OK}, {1, 1, 1 << 63, api.ErrTx}} {
		in, out := many(c.ins), many(c.outs)
		if c.ins > 0 {
			in[0].V = c.fee
		}
		d := deal{r, 1, 0, in, out, c.fee, stream(r, "a", c.outs)}
		checked(t, fmt.Sprint(c), r, d.paper(t).bytes(), c.want)
	}
}

// Of several faults the one named first: all ways in which the four can come together, and rules that do not stand.
func TestP1804OrderOfErrors(t *testing.T) {
	t.Parallel()
	errors := []api.Errno{api.ErrTx, api.ErrRange, api.ErrBalance, api.ErrSign, api.OK}
	for way := range 1 << 4 {
		wrong := func(place int) bool { return way>>place&1 == 1 }
		tx := ordinary().spoilt(t, faults{wrong(0), wrong(1), wrong(2), wrong(3)})
		place := 0
		for place < 4 && !wrong(place) {
			place++
		}
		checked(t, fmt.Sprintf("wrong: %04b", way), four, tx, errors[place])
		for _, r := range badRules() {
			errno(t, fmt.Sprintf("wrong: %04b, and the rules", way), ledger.CheckTx(r, tx), api.ErrParams)
		}
	}
}

// Other rules: another number of bits cuts the bytes otherwise; the reward does not count.
func TestP1804OtherRules(t *testing.T) {
	t.Parallel()
	tx := ordinary().paper(t).bytes()
	for _, n := range allBits {
		if n != 4 {
			checked(t, fmt.Sprint(n, " bits"), ledger.Rules{Bits: n, Reward: 10}, tx, api.ErrTx)
		}
	}
	for _, reward := range []uint64{0, 11, 1 << 32} {
		checked(t, fmt.Sprint("the reward ", reward), ledger.Rules{Bits: 4, Reward: reward}, tx, api.OK)
	}
}

// Each output's proof counts, and it must be that of its own commitment and under its own label.
func TestP1804Range(t *testing.T) {
	t.Parallel()
	m := sample.Maker(1804)
	in, out, fee := payment(&m, 4, 2, 4)
	d := deal{four, 1, 0, in, out, fee, m.Bytes(wanted(4, 4))}
	good := d.unsigned(t)
	for i := range good.outs {
		for j := range good.outs {
			p := good
			p.outs = slices.Clone(good.outs)
			p.outs[i].proof = good.outs[j].proof
			want := api.ErrRange
			if i == j {
				want = api.OK
			}
			checked(t, fmt.Sprint("the proof of ", j, " at ", i), four, p.signedBy(t, d.key(), d.nonce()).bytes(), want)
		}
	}
	zeros := good
	zeros.outs = slices.Clone(good.outs)
	zeros.outs[2].proof = make([]byte, len(good.outs[2].proof))
	checked(t, "a proof of zeros", four, zeros.signedBy(t, d.key(), d.nonce()).bytes(), api.ErrRange)
	for _, label := range []string{"", "veil outpu", "veil output ", "Veil output", "veil tx"} {
		p := good
		p.outs = slices.Clone(good.outs)
		c := risingOrder(d.out)[1]
		p.outs[1].proof = proofUnder(t, label, c, d.stream)
		checked(t, "the label "+label, four, p.signedBy(t, d.key(), d.nonce()).bytes(), api.ErrRange)
		p.outs[1].proof = proofUnder(t, "veil output", c, d.stream)
		checked(t, "another proof of the same", four, p.signedBy(t, d.key(), d.nonce()).bytes(), api.OK)
	}
}

// Coins out of nothing: whoever makes a payment that does not come out even has no key for what is left.
func TestP1804P1809OutOfNothing(t *testing.T) {
	t.Parallel()
	for _, c := range []struct {
		what    string
		in, out []ledger.Coin
		fee     uint64
	}{
		{"from nothing", nil, coins(9, 1), 0},
		{"one too many", coins(5, 3), coins(6, 1), 0},
		{"one too few", coins(5, 3), coins(4, 1), 0},
		{"a fee too great", coins(5, 3), coins(5, 1), 1},
		{"2^63 for nothing", coins(1<<63, 3, 1<<63, 4), coins(0, 1), 0},
	} {
		d := deal{four, 1, 0, c.in, c.out, c.fee, stream(four, "a", len(c.out))}
		checked(t, c.what+", the excess of the blindings", four, d.paper(t).bytes(), api.ErrBalance)
		p := d.unsigned(t)
		left := generator(api.GenBase).Times(scalar.Int(c.fee))
		for _, out := range p.outs {
			left = left.Add(pointOf(out.commitment))
		}
		for _, in := range p.ins {
			left = left.Add(pointOf(in).Neg())
		}
		p = p.signedBy(t, d.key(), d.nonce())
		p.excess = left.Encode()
		checked(t, c.what+", the excess that is left", four, p.bytes(), api.ErrSign)
		p.c, p.answer = api.Bytes32{}, api.Bytes32{}
		checked(t, c.what+", signed by nobody", four, p.bytes(), api.ErrSign)
	}
}

// The signature is that of the very message, with the key of the very excess.
func TestP1804Sign(t *testing.T) {
	t.Parallel()
	d := ordinary()
	good := d.paper(t)
	mint := good
	mint.kind = 2
	asMint := good
	other := mint.signedBy(t, d.key(), d.nonce())
	asMint.c, asMint.answer = other.c, other.answer
	checked(t, "signed as a mint", four, asMint.bytes(), api.ErrSign)

	more := d
	more.fee++
	otherFee := good
	signed := more.paper(t)
	otherFee.c, otherFee.answer = signed.c, signed.answer
	checked(t, "signed with another fee", four, otherFee.bytes(), api.ErrSign)

	swapped := good
	swapped.c, swapped.answer = good.answer, good.c
	checked(t, "challenge and answer the other way round", four, swapped.bytes(), api.ErrSign)
	again := good.signedBy(t, d.key(), scalar.Int(5))
	checked(t, "signed with another nonce", four, again.bytes(), api.OK)
}

// edited: bytes with something replaced, left out, put in or moved.
func edited(m *sample.Maker, b []byte) []byte {
	at := int(m.Next() % uint64(len(b)))
	if m.Next()%2 == 0 { // what stands at the front and at the end says most
		at = min(at%8, len(b)-1)
	} else if m.Next()%3 == 0 {
		at = max(0, len(b)-1-at%100)
	}
	end := min(len(b), at+[]int{1, 1, 2, 32, 64}[m.Next()%5])
	switch m.Next() % 5 {
	case 0:
		return slices.Concat(b[:at], b[end:])
	case 1:
		return slices.Concat(b[:at], m.Bytes(end-at), b[at:])
	case 2:
		return slices.Concat(b[:at], b[at:end], b[at:])
	case 3:
		return slices.Concat(b[:at], m.Bytes(end-at), b[end:])
	}
	c := slices.Clone(b)
	c[at] ^= 1 << (m.Next() % 8)
	return c
}

// Whatever is done to the bytes: CheckTx says what the reference says, for which bytes are a transaction just if they are written so.
func TestP1804P1811Edited(t *testing.T) {
	t.Parallel()
	m := sample.Maker(1811)
	for _, r := range []ledger.Rules{{Bits: 1}, {Bits: 4}} {
		in, out, fee := payment(&m, r.Bits, 2, 2)
		tx := isBuilt(t, "as it is", r, in, out, fee, m.Bytes(wanted(r.Bits, 2)))
		for range 500 {
			b := edited(&m, tx)
			for m.Next()%3 == 0 {
				b = edited(&m, append(b, 1))
			}
			want := wantCheck(r, b)
			errno(t, fmt.Sprintf("%x", hash.Sum(b)), ledger.CheckTx(r, b), want)
			if want == api.OK && !bytes.Equal(b, tx) {
				t.Errorf("other bytes are accepted")
			}
		}
	}
}

// What Build answers is read as what was handed in, and written again it is the same.
func TestP1811WrittenAgain(t *testing.T) {
	t.Parallel()
	m := sample.Maker(18110)
	for _, c := range [][2]int{{0, 1}, {1, 1}, {3, 2}, {16, 16}} {
		r := ledger.Rules{Bits: 2}
		in, out, fee := payment(&m, 2, c[0], c[1])
		for i := range out {
			if c[0] == 0 {
				out[i].V = 0
			}
		}
		tx, key, e := ledger.Build(r, in, out, fee, m.Bytes(wanted(2, c[1])))
		errno(t, "Build", e, api.OK)
		p, ok := paperOf(2, 1, tx)
		if !ok || p.fee != fee || len(p.ins) != c[0] || len(p.outs) != c[1] || p.excess != generator(api.GenBlind).Times(key).Encode() {
			t.Fatalf("%v: no such transaction", c)
		}
		for i, x := range risingOrder(in) {
			if p.ins[i] != committed(x) {
				t.Errorf("%v: input %d is another one", c, i)
			}
		}
		for i, x := range risingOrder(out) {
			if p.outs[i].commitment != committed(x) {
				t.Errorf("%v: output %d is another one", c, i)
			}
		}
		if !bytes.Equal(p.bytes(), tx) {
			t.Errorf("%v: written again there are other bytes", c)
		}
	}
}
