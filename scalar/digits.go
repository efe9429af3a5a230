package scalar

import "veil/api"

// window: the number that w bits make from a place below 256 on, the limbs as they are; behind the last limb all bits are 0.
func (a Scalar) window(place, w int) int {
	limb, off := place/limbBits, place%limbBits
	n := a[limb] >> off
	if limb+1 < limbs {
		n |= a[limb+1] << (limbBits - off)
	}
	return int(n & (1<<w - 1))
}

// Digits: signed digits to the base 2^w, w from 1 to 12, the lowest first.
func (a Scalar) Digits(w int) ([]int, api.Errno) {
	if w < 1 || w > 12 {
		return nil, api.ErrArg
	}
	a = a.Least()
	list := make([]int, (lastBit+1)/w+1)
	over := 0
	for i := range list {
		digit := a.window(w*i, w) + over
		over = 0
		if digit > 1<<(w-1) {
			digit -= 1 << w
			over = 1
		}
		list[i] = digit
	}
	return list, api.OK // the last window has a bit to spare: nothing is left over
}

// Naf: the non-adjacent form of the width w, from 2 to 8, the lowest digit first.
func (a Scalar) Naf(w int) ([]int, api.Errno) {
	if w < 2 || w > 8 {
		return nil, api.ErrArg
	}
	a = a.Least()
	list := make([]int, lastBit+2)
	over := 0
	for i := 0; i < len(list); {
		digit := a.window(i, w) + over
		if digit%2 == 0 {
			i++ // bit and over are both 0 or both 1: over stays as it is
			continue
		}
		over = digit >> (w - 1)
		list[i] = digit - over<<w
		i += w
	}
	return list, api.OK
}
