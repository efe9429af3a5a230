package curve

import "veil/api"

// window: bits of a digit.
const window = 4

// bits: a number of 256 bits, the lowest byte first.
type bits api.Bytes32

// digit: digit i of the number, to the base 2^window.
func (b bits) digit(i int) int { return int(b[i/2]>>(window*(i%2))) & (1<<window - 1) }

// top: the place of the highest digit that is not 0; 0, if all are.
func (b bits) top() int {
	place := 0
search:
	for i := len(b) - 1; i >= 0; i-- {
		for half := 1; half >= 0; half-- {
			place = 2*i + half
			if b.digit(place) != 0 {
				break search
			}
		}
	}
	return place
}

// highest: is the highest bit 1?
func (b bits) highest() bool { return b[31]>>7 == 1 }

// others: the number without its highest bit.
func (b bits) others() api.Bytes32 {
	b[31] &= 0x7f
	return api.Bytes32(b)
}

// raise: the highest bit is 1 from now on.
func (b *bits) raise() { b[31] |= 0x80 }
