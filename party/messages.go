package party

import "veil/api"

// message: of a place.
type message interface{ place() int }

func (b Bit[P]) place() int  { return b.Place }
func (t Poly[P]) place() int { return t.Place }
func (s Share) place() int   { return s.Place }

// byPlace: messages in the order of their places, if it is their turn and they are all.
func byPlace[M message](theirs bool, p api.Params, ms []M) ([]M, api.Errno) {
	switch {
	case !theirs:
		return nil, api.ErrPhase
	case len(ms) != p.Count:
		return nil, api.ErrLength
	}
	all, there := make([]M, p.Count), make([]bool, p.Count)
	for _, m := range ms {
		j := m.place()
		if !isPlace(p, j) || there[j] {
			return nil, api.ErrPlace
		}
		all[j], there[j] = m, true
	}
	return all, api.OK
}
