package ledger

import (
	"veil/api"
	"veil/gens"
	"veil/group"
	"veil/ranges"
	"veil/scalar"
	"veil/sigma"
)

// judge: is a transaction or a mint right by itself?
func (r Rules) judge(x record) api.Errno {
	switch {
	case !r.proved(x.outs):
		return api.ErrRange
	case !x.balances():
		return api.ErrBalance
	case !x.signed():
		return api.ErrSign
	}
	return api.OK
}

// proved: is each of the outputs?
func (r Rules) proved(outs []output) bool {
	for _, x := range outs {
		if !ranges.VerifyBytes(r.params(), outputLabel, []api.Bytes32{x.bytes}, x.proof) {
			return false
		}
	}
	return true
}

// balances: is the excess what the commitments leave?
func (x record) balances() bool {
	base, _ := gens.Point(api.GenBase, 0)
	sum := base.Times(x.beside)
	for _, out := range x.outs {
		sum = sum.Add(out.point)
	}
	var spent group.Point
	for _, in := range x.ins {
		spent = spent.Add(in.point)
	}
	return sum.Same(spent.Add(x.kernel.excess.point))
}

// signed: does whoever made it know the excess as a multiple of Blind? So no B is left over in it.
func (x record) signed() bool {
	blind, _ := gens.Point(api.GenBlind, 0)
	message := messageOf(x.tag, x.body, x.kernel.excess.bytes)
	signature := sigma.Proof{C: x.kernel.c, Answers: []scalar.Scalar{x.kernel.answer}}
	return sigma.Signed(blind, x.kernel.excess.point, message[:], signature) == api.OK
}
