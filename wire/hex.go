package wire

import "veil/api"

const digits = "0123456789abcdef"

// Hex: bytes as small hexadecimal digits.
func Hex(b []byte) string {
	text := make([]byte, 0, 2*len(b))
	for _, c := range b {
		text = append(text, digits[c>>4], digits[c&15])
	}
	return string(text)
}

// Unhex: the bytes of small hexadecimal digits; api.ErrHex: the text is something else.
func Unhex(s string) ([]byte, api.Errno) {
	if len(s)%2 != 0 {
		return nil, api.ErrHex
	}
	b := make([]byte, len(s)/2)
	for i, c := range s {
		d, ok := digit(c)
		if !ok {
			return nil, api.ErrHex
		}
		b[i/2] = b[i/2]<<4 | d
	}
	return b, api.OK
}

// digit: what a digit stands for.
func digit(c rune) (byte, bool) {
	switch {
	case c >= '0' && c <= '9':
		return byte(c - '0'), true
	case c >= 'a' && c <= 'f':
		return byte(c-'a') + 10, true
	}
	return 0, false
}
