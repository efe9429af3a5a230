package ledger

import (
	"slices"

	"veil/api"
)

// outputs: the commitments of those that are unspent.
type outputs map[api.Bytes32]struct{}

// step: a commitment that is spent, or one that is made.
type step struct {
	commitment api.Bytes32
	made       bool
}

// steps: what a record does to the unspent outputs. Its inputs are unlike each other, and so are its outputs: so it is the same whether each is asked for when its turn comes, or all inputs, and then all outputs, ahead of that.
func (x record) steps() []step {
	var list []step
	for _, in := range x.ins {
		list = append(list, step{in.bytes, false})
	}
	for _, out := range x.outs {
		list = append(list, step{out.bytes, true})
	}
	return list
}

// has: is it unspent?
func (u outputs) has(commitment api.Bytes32) bool {
	_, there := u[commitment]
	return there
}

// take: a step.
func (u outputs) take(s step) {
	if s.made {
		u[s.commitment] = struct{}{}
	} else {
		delete(u, s.commitment)
	}
}

// back: undoes steps, the last one first: a commitment may stand in several of them.
func (u outputs) back(taken []step) {
	for _, s := range slices.Backward(taken) {
		u.take(step{s.commitment, !s.made})
	}
}

// run: takes the steps of records, one record behind the other, and tells them; with an error it takes none.
func (u outputs) run(records []record) ([]step, api.Errno) {
	var taken []step
	for _, x := range records {
		for _, s := range x.steps() {
			if s.made == u.has(s.commitment) {
				u.back(taken)
				return nil, s.fault()
			}
			u.take(s)
			taken = append(taken, s)
		}
	}
	return taken, api.OK
}

// fault: of a step that can't be taken.
func (s step) fault() api.Errno {
	if s.made {
		return api.ErrThere
	}
	return api.ErrSpent
}

// sorted: all of them, in their order.
func (u outputs) sorted() []api.Bytes32 {
	list := make([]api.Bytes32, 0, len(u))
	for commitment := range u {
		list = append(list, commitment)
	}
	slices.SortFunc(list, byBytes)
	return list
}
