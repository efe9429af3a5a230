package ledger_test

// What must be answered, by the chapter's words: payments are written and judged here by the calls of the layers below, the library's SHA-512 and its numbers, and a chain is a pile of copies.

import (
	"bytes"
	"crypto/sha512"
	"encoding/binary"
	"math/big"
	"slices"
	"testing"

	"veil/api"
	"veil/gens"
	"veil/group"
	"veil/ledger"
	"veil/ranges"
	"veil/sample"
	"veil/scalar"
	"veil/sigma"
	"veil/transcript"
	"veil/wire"
)

func errno(t testing.TB, what string, got, want api.Errno) {
	t.Helper()
	if got != want {
		t.Errorf("%s: the answer is %d, want %d", what, got, want)
	}
}

// must: what was answered with OK.
func must[T any](t testing.TB, what string) func(x T, e api.Errno) T {
	t.Helper()
	return func(x T, e api.Errno) T {
		t.Helper()
		if e != api.OK {
			t.Fatalf("%s: %d", what, e)
		}
		return x
	}
}

func generator(kind int) group.Point {
	p, _ := gens.Point(kind, 0)
	return p
}

// committed: V B + Blind Blind.
func committed(c ledger.Coin) api.Bytes32 {
	return generator(api.GenBase).Times(scalar.Int(c.V)).Add(generator(api.GenBlind).Times(c.Blind)).Encode()
}

// above: in the order of commitments.
func above(a, b api.Bytes32) bool { return string(a[:]) > string(b[:]) }

// risingOrder: the coins by their commitments.
func risingOrder(coins []ledger.Coin) []ledger.Coin {
	list := slices.Clone(coins)
	slices.SortFunc(list, func(a, b ledger.Coin) int {
		if above(committed(a), committed(b)) {
			return 1
		}
		return -1
	})
	return list
}

// shown: an output.
type shown struct {
	commitment api.Bytes32
	proof      []byte
}

// paper: what stands in the bytes of a transaction (kind 1) or of a mint (kind 2).
type paper struct {
	kind              byte
	height, fee       uint64
	ins               []api.Bytes32
	outs              []shown
	excess, c, answer api.Bytes32
}

// body: all of its bytes but the kernel's.
func (p paper) body() []byte {
	b := []byte{p.kind}
	if p.kind == 2 {
		b = binary.AppendUvarint(binary.AppendUvarint(b, p.height), p.fee)
		return append(append(b, p.outs[0].commitment[:]...), p.outs[0].proof...)
	}
	b = binary.AppendUvarint(b, uint64(len(p.ins)))
	for _, in := range p.ins {
		b = append(b, in[:]...)
	}
	b = binary.AppendUvarint(b, uint64(len(p.outs)))
	for _, out := range p.outs {
		b = append(append(b, out.commitment[:]...), out.proof...)
	}
	return binary.AppendUvarint(b, p.fee)
}

// bytes: all of them.
func (p paper) bytes() []byte {
	return slices.Concat(p.body(), p.excess[:], p.c[:], p.answer[:])
}

// message: what its kernel signs.
func (p paper) message() []byte {
	tag := map[byte]string{1: "veil tx", 2: "veil mint"}[p.kind]
	sum := sha512.Sum512(slices.Concat([]byte(tag), p.body(), p.excess[:]))
	return sum[:]
}

// deal: somebody who makes a payment by hand.
type deal struct {
	rules   ledger.Rules
	kind    byte
	height  uint64
	in, out []ledger.Coin
	fee     uint64
	stream  []byte
}

// wanted: how many bytes of a stream so many outputs want.
func wanted(bits, outs int) int { return 64 * (outs*(4+2*bits) + 1) }

// unsigned: the paper without its kernel.
func (d deal) unsigned(t testing.TB) paper {
	t.Helper()
	p := paper{kind: d.kind, height: d.height, fee: d.fee}
	for _, c := range risingOrder(d.in) {
		p.ins = append(p.ins, committed(c))
	}
	params, each := api.Params{Bits: d.rules.Bits, Count: 1}, 64*(4+2*d.rules.Bits)
	g := must[gens.Set[group.Point]](t, "Standard")(gens.Standard(d.rules.Bits))
	for i, c := range risingOrder(d.out) {
		tape := must[ranges.Tape](t, "ReadTape")(ranges.ReadTape(params, d.stream[each*i:each*(i+1)]))
		_, x, e := ranges.Prove(g, params, []ranges.Opening{c}, tape, transcript.New("veil output"))
		errno(t, "Prove", e, api.OK)
		p.outs = append(p.outs, shown{committed(c), must[[]byte](t, "EncodeProof")(wire.EncodeProof(x))})
	}
	return p
}

// key: out's blindings less in's.
func (d deal) key() scalar.Scalar {
	sum := new(big.Int)
	for _, c := range d.out {
		sum.Add(sum, sample.NumberOf(c.Blind))
	}
	for _, c := range d.in {
		sum.Sub(sum, sample.NumberOf(c.Blind))
	}
	return sample.Scalar(sum)
}

// nonce: of the 64 bytes behind the outputs' tapes.
func (d deal) nonce() scalar.Scalar {
	at := wanted(d.rules.Bits, len(d.out)) - 64
	return sample.Scalar(sample.Number(d.stream[at : at+64]))
}

// signedBy: the paper with the kernel of a key.
func (p paper) signedBy(t testing.TB, key, nonce scalar.Scalar) paper {
	t.Helper()
	blind := generator(api.GenBlind)
	public := blind.Times(key)
	p.excess = public.Encode()
	o := transcript.New("veil signature")
	o.Absorb("message", p.message())
	s := must[sigma.Proof](t, "sigma.Prove")(sigma.Prove(sigma.Key(blind, public), []scalar.Scalar{key}, []scalar.Scalar{nonce}, o))
	p.c, p.answer = s.C.Encode(), s.Answers[0].Encode()
	return p
}

// paper: as the document says.
func (d deal) paper(t testing.TB) paper {
	t.Helper()
	return d.unsigned(t).signedBy(t, d.key(), d.nonce())
}

// faults: what is wrong with a payment, and nothing else.
type faults struct{ form, proof, balance, sign bool }

// oneMore: the scalar's bytes, one more.
func oneMore(b api.Bytes32) api.Bytes32 {
	k, _ := scalar.Decode(b)
	return k.Add(scalar.Int(1)).Encode()
}

// spoilt: the bytes of a payment with these faults: a byte behind it; a proof whose mu is one too great; the excess of another key, which it is signed with; an answer that is one too great.
func (d deal) spoilt(t testing.TB, f faults) []byte {
	t.Helper()
	p, key := d.unsigned(t), d.key()
	if f.proof {
		proof := p.outs[len(p.outs)-1].proof
		mu := oneMore(api.Bytes32(proof[5*32:]))
		copy(proof[5*32:], mu[:])
	}
	if f.balance {
		key = key.Add(scalar.Int(1))
	}
	p = p.signedBy(t, key, d.nonce())
	if f.sign {
		p.answer = oneMore(p.answer)
	}
	if f.form {
		return append(p.bytes(), 0)
	}
	return p.bytes()
}

// cutter: takes bytes from the front.
type cutter struct {
	rest []byte
	ok   bool
}

func (c *cutter) take(n int) []byte {
	if !c.ok || n > len(c.rest) {
		c.ok = false
		return make([]byte, min(n, 4096))
	}
	b := c.rest[:n]
	c.rest = c.rest[n:]
	return b
}

func (c *cutter) bytes32() api.Bytes32 { return api.Bytes32(c.take(32)) }

// number: by the library; whether it is the only way to write it is asked elsewhere.
func (c *cutter) number() uint64 {
	n, size := binary.Uvarint(c.rest)
	if size <= 0 {
		c.ok = false
		return 0
	}
	c.take(size)
	return n
}

// count: a number that may be at most so great.
func (c *cutter) count(most int) int {
	n := c.number()
	if n > uint64(most) {
		c.ok = false
		return 0
	}
	return int(n)
}

// paperOf: what bytes say, if they are a payment of that kind. Written again they must be the same bytes.
func paperOf(bits int, kind byte, b []byte) (paper, bool) {
	c := &cutter{b, true}
	p := paper{kind: c.take(1)[0]}
	if p.kind != kind {
		return paper{}, false
	}
	proof := 32 * (9 + 2*(big.NewInt(int64(bits)).BitLen()-1))
	output := func() { p.outs = append(p.outs, shown{c.bytes32(), c.take(proof)}) }
	if kind == 2 {
		p.height, p.fee = c.number(), c.number()
		output()
	} else {
		for range c.count(16) {
			p.ins = append(p.ins, c.bytes32())
		}
		for range c.count(16) {
			output()
		}
		p.fee = c.number()
	}
	p.excess, p.c, p.answer = c.bytes32(), c.bytes32(), c.bytes32()
	if !c.ok || len(p.outs) == 0 || p.fee>>63 != 0 || !p.canonical() || !bytes.Equal(p.bytes(), b) {
		return paper{}, false
	}
	return p, true
}

// canonical: are its elements, scalars and proofs, and do its commitments rise?
func (p paper) canonical() bool {
	elements, outs := append(slices.Clone(p.ins), p.excess), []api.Bytes32(nil)
	for _, out := range p.outs {
		elements, outs = append(elements, out.commitment), append(outs, out.commitment)
		if _, e := wire.DecodeProof[group.Point](out.proof); e != api.OK {
			return false
		}
	}
	for _, b := range elements {
		if _, e := (group.Point{}).Decode(b); e != api.OK {
			return false
		}
	}
	for _, b := range []api.Bytes32{p.c, p.answer} {
		if sample.Number(b[:]).Cmp(sample.L()) >= 0 {
			return false
		}
	}
	for _, list := range [][]api.Bytes32{p.ins, outs} {
		for i := 1; i < len(list); i++ {
			if !above(list[i], list[i-1]) {
				return false
			}
		}
	}
	return true
}

func pointOf(b api.Bytes32) group.Point {
	p, _ := group.Point{}.Decode(b)
	return p
}

// judged: what is wrong with a payment by itself.
func (p paper) judged(r ledger.Rules) api.Errno {
	left := pointOf(p.excess)
	for _, in := range p.ins {
		left = left.Add(pointOf(in))
	}
	beside := new(big.Int).SetUint64(p.fee)
	if p.kind == 2 {
		beside.Add(beside, new(big.Int).SetUint64(r.Reward)).Neg(beside)
	}
	right := generator(api.GenBase).Times(sample.Scalar(beside))
	for _, out := range p.outs {
		if ranges.Explain(api.Params{Bits: r.Bits, Count: 1}, "veil output", []api.Bytes32{out.commitment}, out.proof) != api.OK {
			return api.ErrRange
		}
		right = right.Add(pointOf(out.commitment))
	}
	if !left.Same(right) {
		return api.ErrBalance
	}
	o := transcript.New("veil signature")
	o.Absorb("message", p.message())
	c, _ := scalar.Decode(p.c)
	answer, _ := scalar.Decode(p.answer)
	if sigma.Verify(sigma.Key(generator(api.GenBlind), pointOf(p.excess)), sigma.Proof{C: c, Answers: []scalar.Scalar{answer}}, o) != api.OK {
		return api.ErrSign
	}
	return api.OK
}

// wantCheck: what CheckTx must answer under rules that stand.
func wantCheck(r ledger.Rules, tx []byte) api.Errno {
	p, ok := paperOf(r.Bits, 1, tx)
	if !ok {
		return api.ErrTx
	}
	return p.judged(r)
}

// sheet: what stands in the bytes of a block.
type sheet struct {
	parent api.Bytes64
	height uint64
	mint   []byte
	txs    [][]byte
}

func (s sheet) bytes() []byte {
	b := append([]byte{3}, s.parent[:]...)
	b = binary.AppendUvarint(b, s.height)
	b = append(binary.AppendUvarint(b, uint64(len(s.mint))), s.mint...)
	b = binary.AppendUvarint(b, uint64(len(s.txs)))
	for _, tx := range s.txs {
		b = append(binary.AppendUvarint(b, uint64(len(tx))), tx...)
	}
	return b
}

// sheetOf: what bytes say, if they are a block.
func sheetOf(b []byte) (sheet, bool) {
	c := &cutter{b, true}
	if c.take(1)[0] != 3 {
		return sheet{}, false
	}
	s := sheet{parent: api.Bytes64(c.take(64)), height: c.number()}
	s.mint = c.take(c.count(1 << 20))
	for range c.count(32) {
		s.txs = append(s.txs, c.take(c.count(1<<20)))
	}
	if !c.ok || !bytes.Equal(s.bytes(), b) {
		return sheet{}, false
	}
	return s, true
}

// proofUnder: a proof of a coin of 4 bits under any label, with the tape at the front of a stream.
func proofUnder(t testing.TB, label string, c ledger.Coin, stream []byte) []byte {
	t.Helper()
	_, proof, e := ranges.ProveBytes(api.Params{Bits: 4, Count: 1}, label, []ranges.Opening{c}, stream)
	errno(t, "ProveBytes", e, api.OK)
	return proof
}

// signature: the 64 bytes of a signature of any message.
func signature(t testing.TB, key, nonce scalar.Scalar, message []byte) []byte {
	t.Helper()
	s := must[sigma.Proof](t, "Sign")(sigma.Sign(generator(api.GenBlind), key, nonce, message))
	c, answer := s.C.Encode(), s.Answers[0].Encode()
	return slices.Concat(c[:], answer[:])
}
