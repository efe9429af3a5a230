package gadget

// Copy: another desk that goes on from here. For the tests, which want many that are nearly full.
func (d *Desk) Copy() *Desk {
	return &Desk{system: d.system.Clone(), numbers: d.numbers.again()}
}
