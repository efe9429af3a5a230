package ledger

import (
	"veil/api"
	"veil/group"
	"veil/scalar"
	"veil/wire"
)

// The first bytes of records: of which kind one is.
const (
	kindTx = 1 + iota
	kindMint
	kindBlock
)

// kernelBytes: the excess, the challenge and the answer to it.
const kernelBytes = 3 * 32

// element: of the group, and its canonical bytes.
type element struct {
	bytes api.Bytes32
	point group.Point
}

// output: a commitment, and the bytes of a proof.
type output struct {
	element
	proof []byte
}

// kernel: what a transaction or a mint is held together by.
type kernel struct {
	excess    element
	c, answer scalar.Scalar
}

// record: what the bytes of a transaction, a mint or a block say. What its kind has not is zero.
type record struct {
	// Of a transaction and a mint. (A mint has no inputs and one output.)
	tag    string
	body   []byte
	ins    []element
	outs   []output
	fee    uint64        // of a mint: the fees
	beside scalar.Scalar // so often B stands beside the outputs less the inputs
	kernel kernel

	// Of a mint and a block.
	height uint64

	// Of a block.
	parent api.Bytes64
	mint   []byte
	txs    [][]byte
}

// read: what the bytes say, if they are a record of that kind.
func (r Rules) read(kind uint64, b []byte) (record, bool) {
	by := [...]func(Rules, *wire.Reader) record{
		kindTx:    Rules.readTx,
		kindMint:  Rules.readMint,
		kindBlock: Rules.readBlock,
	}
	w := wire.NewReader(b)
	// A number as small as this is one byte.
	if w.Number(kindBlock) != kind {
		return record{}, false
	}
	x := by[kind](r, w)
	if w.End() != api.OK {
		return record{}, false
	}
	if kind != kindBlock {
		x.body = b[:len(b)-kernelBytes]
	}
	return x, true
}

// readTx: a transaction behind its first byte.
func (r Rules) readTx(w *wire.Reader) record {
	x := record{tag: tagTx}
	x.ins = wire.List(w, api.MaxIns, readElement)
	x.outs = wire.List(w, api.MaxOuts, r.readOutput)
	if len(x.outs) == 0 || !rising(x.ins, element.key) || !rising(x.outs, output.key) {
		w.Fail(api.ErrTx)
	}
	x.fee = w.Number(mostFee)
	x.beside = scalar.Int(x.fee)
	x.kernel = readKernel(w)
	return x
}

// readMint: a mint behind its first byte.
func (r Rules) readMint(w *wire.Reader) record {
	x := record{tag: tagMint}
	x.height = w.Number(1<<64 - 1)
	x.fee = w.Number(mostFee)
	x.beside = scalar.Int(r.Reward + x.fee).Neg()
	x.outs = []output{r.readOutput(w)}
	x.kernel = readKernel(w)
	return x
}

// readBlock: a block behind its first byte.
func (r Rules) readBlock(w *wire.Reader) record {
	var x record
	for half := range 2 {
		b := w.Bytes32()
		copy(x.parent[32*half:], b[:])
	}
	x.height = w.Number(1<<64 - 1)
	x.mint = w.Bytes(mostBytes)
	x.txs = wire.List(w, api.MaxTxs, func(w *wire.Reader) []byte { return w.Bytes(mostBytes) })
	return x
}

// key: what it is ordered by.
func (x element) key() api.Bytes32 { return x.bytes }

// readElement: by canonical bytes.
func readElement(w *wire.Reader) element {
	b := w.Bytes32()
	p, e := group.Point{}.Decode(b)
	w.Fail(e)
	return element{b, p}
}

// readOutput: as many bytes as the rules say.
func (r Rules) readOutput(w *wire.Reader) output {
	x := output{element: readElement(w)}
	for range r.params().Length() / 32 {
		b := w.Bytes32()
		x.proof = append(x.proof, b[:]...)
	}
	_, e := wire.DecodeProof[group.Point](x.proof)
	w.Fail(e)
	return x
}

// readKernel: an excess and its signature.
func readKernel(w *wire.Reader) kernel {
	return kernel{readElement(w), w.Scalar(), w.Scalar()}
}
