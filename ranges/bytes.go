package ranges

import (
	"veil/api"
	"veil/gens"
	"veil/group"
	"veil/transcript"
	"veil/wire"
)

// Commit: the commitments of openings, as bytes.
func Commit(vs ...Opening) []api.Bytes32 {
	g, _ := gens.Standard(0)
	return encodings(commitments(g, vs...))
}

// encodings: of all elements.
func encodings(elements []group.Point) []api.Bytes32 {
	list := make([]api.Bytes32, len(elements))
	for i, a := range elements {
		list[i] = a.Encode()
	}
	return list
}

// ProveBytes: over the standard generators and the transcript of a label.
func ProveBytes(p api.Params, label string, vs []Opening, stream []byte) ([]api.Bytes32, []byte, api.Errno) {
	if e := firstFault(allowed(p), asMany(p, len(vs))); e != api.OK {
		return nil, nil, e
	}
	t, e := ReadTape(p, stream)
	if failed(e) {
		return nil, nil, e
	}
	g, _ := gens.Standard(p.Size())
	v, x, e := Prove(g, p, vs, t, transcript.New(label))
	if failed(e) {
		return nil, nil, e
	}
	proof, e := wire.EncodeProof(x)
	if failed(e) {
		return nil, nil, e
	}
	return encodings(v), proof, api.OK
}

// received: what bytes say, and the generators that it is said of.
type received struct {
	g gens.Set[group.Point]
	v []group.Point
	x wire.Proof[group.Point]
}

// receive: what commitments and a proof say.
func receive(p api.Params, v []api.Bytes32, proof []byte) (received, api.Errno) {
	if e := firstFault(allowed(p), asMany(p, len(v)), long(p.Length, len(proof))); e != api.OK {
		return received{}, e
	}
	var r received
	for _, b := range v {
		c, e := group.Point{}.Decode(b)
		if failed(e) {
			return received{}, e
		}
		r.v = append(r.v, c)
	}
	x, e := wire.DecodeProof[group.Point](proof)
	if failed(e) {
		return received{}, e
	}
	r.x = x
	r.g, _ = gens.Standard(p.Size())
	return r, api.OK
}

// VerifyBytes: by one sum.
func VerifyBytes(p api.Params, label string, v []api.Bytes32, proof []byte) bool {
	r, e := receive(p, v, proof)
	if failed(e) {
		return false
	}
	yes, _ := Once(r.g, p, r.v, r.x, transcript.New(label))
	return yes
}

// Explain: round by round: why a proof is not accepted.
func Explain(p api.Params, label string, v []api.Bytes32, proof []byte) api.Errno {
	r, e := receive(p, v, proof)
	if failed(e) {
		return e
	}
	return Rounds(r.g, p, r.v, r.x, transcript.New(label))
}
