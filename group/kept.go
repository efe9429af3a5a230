package group

import (
	"sync"

	"veil/curve"
)

// derived: what is worked out once, when it is first asked for, and never changed behind that.
type derived struct {
	baseOnce, mapOnce sync.Once
	base              []row
	mapping           constants
}

var kept = derived{}

// baseRows: the rows of the base point.
func baseRows() []row {
	kept.baseOnce.Do(func() { kept.base = rowsOf(curve.Base()) })
	return kept.base
}

// mapConstants: the constants of the map.
func mapConstants() constants {
	kept.mapOnce.Do(func() { kept.mapping = newConstants() })
	return kept.mapping
}
