package arith

import (
	"veil/api"
	"veil/circuit"
	"veil/gens"
	"veil/group"
	"veil/scalar"
	"veil/transcript"
)

// ProveBytes: over the standard generators and the transcript of a label.
func ProveBytes(s *circuit.System, label string, a circuit.Assignment, blinds []scalar.Scalar, stream []byte) ([]api.Bytes32, []byte, api.Errno) {
	about, e := subjectOf(s)
	if e != api.OK {
		return nil, nil, e
	}
	if !about.assigned(a, blinds) {
		return nil, nil, api.ErrLength
	}
	t, e := ReadTape(s, stream)
	if e != api.OK {
		return nil, nil, e
	}
	g, _ := gens.Standard(about.size)
	v, x, e := Prove(g, s, a, blinds, t, transcript.New(label))
	if e != api.OK {
		return nil, nil, e
	}
	proof, e := EncodeProof(x)
	if e != api.OK {
		return nil, nil, e
	}
	list := make([]api.Bytes32, len(v))
	for j, c := range v {
		list[j] = c.Encode()
	}
	return list, proof, api.OK
}

// received: what bytes say, and the generators that it is said of.
type received struct {
	g gens.Set[group.Point]
	v []group.Point
	x Proof[group.Point]
}

// receive: what commitments and a proof say.
func receive(s *circuit.System, v []api.Bytes32, proof []byte) (received, api.Errno) {
	about, e := subjectOf(s)
	if e != api.OK {
		return received{}, e
	}
	if !about.valued(len(v)) || len(proof) != length(about.rounds) {
		return received{}, api.ErrLength
	}
	var r received
	for _, b := range v {
		c, e := group.Point{}.Decode(b)
		if e != api.OK {
			return received{}, e
		}
		r.v = append(r.v, c)
	}
	if r.x, e = DecodeProof[group.Point](proof); e != api.OK {
		return received{}, e
	}
	r.g, _ = gens.Standard(about.size)
	return r, api.OK
}

// VerifyBytes: by one sum.
func VerifyBytes(s *circuit.System, label string, v []api.Bytes32, proof []byte) bool {
	r, e := receive(s, v, proof)
	if e != api.OK {
		return false
	}
	yes, _ := Once(r.g, s, r.v, r.x, transcript.New(label))
	return yes
}

// Explain: round by round: why a proof is not accepted.
func Explain(s *circuit.System, label string, v []api.Bytes32, proof []byte) api.Errno {
	r, e := receive(s, v, proof)
	if e != api.OK {
		return e
	}
	return Rounds(r.g, s, r.v, r.x, transcript.New(label))
}
