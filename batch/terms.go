package batch

import (
	"veil/api"
	"veil/gens"
	"veil/group"
	"veil/msm"
	"veil/ranges"
	"veil/scalar"
	"veil/transcript"
	"veil/wire"
)

// told: what an item tells: its sum, as terms; or its fault.
type told struct {
	terms []msm.Term[group.Point]
	fault api.Errno
}

// allTerms: of all items' sums, each times its weight, which the Oracle answers.
func allTerms(items []Item, o transcript.Oracle) ([]msm.Term[group.Point], api.Errno) {
	if len(items) > api.MaxItems {
		return nil, api.ErrArg
	}
	g, _ := gens.Standard(greatest(items))
	list := judged(items, func(x Item) told { return x.tell(g) })
	for _, x := range list {
		if x.fault != api.OK {
			return nil, x.fault
		}
	}
	weights, e := weightsOf(items, o)
	if e != api.OK {
		return nil, e
	}
	return joined(list, weights), api.OK
}

// greatest: the greatest size of items whose Params are allowed.
func greatest(items []Item) int {
	most := 0
	for _, x := range items {
		if x.Params.Allowed() {
			most = max(most, x.Params.Size())
		}
	}
	return most
}

// tell: over generators of which there are enough. Faults are those of ranges.Explain, in their order; but whether an equation fails is not asked of one item alone.
func (x Item) tell(g gens.Set[group.Point]) told {
	if !x.Params.Allowed() {
		return told{fault: api.ErrParams}
	}
	if len(x.V) != x.Params.Count || len(x.Proof) != x.Params.Length() {
		return told{fault: api.ErrLength}
	}
	v, e := decoded(x.V)
	if e != api.OK {
		return told{fault: e}
	}
	proof, e := wire.DecodeProof[group.Point](x.Proof)
	if e != api.OK {
		return told{fault: e}
	}
	terms, e := ranges.Terms(g, x.Params, v, proof, transcript.New(x.Label))
	return told{terms, e}
}

// decoded: the elements of their bytes.
func decoded(list []api.Bytes32) ([]group.Point, api.Errno) {
	elements := make([]group.Point, len(list))
	for i, b := range list {
		p, e := group.Point{}.Decode(b)
		if e != api.OK {
			return nil, e
		}
		elements[i] = p
	}
	return elements, api.OK
}

// joined: all terms, each times its item's weight, those of one element as one. All items' terms are of the same generators, handed on as they are: so each generator stands in one term alone, and by its look alone it is known.
func joined(list []told, weights []scalar.Scalar) []msm.Term[group.Point] {
	var all []msm.Term[group.Point]
	places := map[group.Point]int{}
	for i, x := range list {
		for _, term := range x.terms {
			place, there := places[term.P]
			if !there {
				place = len(all)
				places[term.P] = place
				all = append(all, msm.Term[group.Point]{P: term.P})
			}
			all[place].K = all[place].K.Add(term.K.Mul(weights[i]))
		}
	}
	return all
}
