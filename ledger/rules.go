package ledger

import "veil/api"

// params: of the proof of an output.
func (r Rules) params() api.Params { return api.Params{Bits: r.Bits, Count: 1} }

// stand: may a chain have these rules?
func (r Rules) stand() bool { return r.params().Allowed() && r.Reward <= api.MaxReward }

// tooGreat: is a coin's value too great for an output?
func (r Rules) tooGreat(c Coin) bool {
	top, there := r.params().Top()
	return there && c.V >= top
}

// tape: how many bytes of a stream the proof of one output takes.
func (r Rules) tape() int { return 64 * (4 + 2*r.Bits) }

// wanted: how many bytes of a stream so many outputs and a signature take.
func (r Rules) wanted(outputs int) int { return r.tape()*outputs + 64 }
