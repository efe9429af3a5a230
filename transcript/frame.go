package transcript

// lengthBytes: how many bytes a length takes in a frame.
const lengthBytes = 8

// Frame: a label and parts as bytes, so that no two of them are the same.
func Frame(label string, parts ...[]byte) []byte {
	frame := make([]byte, 0, frameSize(label, parts))
	frame = appendLength(frame, len(label))
	frame = append(frame, label...)
	frame = appendLength(frame, len(parts))
	for _, part := range parts {
		frame = appendLength(frame, len(part))
		frame = append(frame, part...)
	}
	return frame
}

// frameSize: how many bytes a frame has.
func frameSize(label string, parts [][]byte) int {
	size := lengthBytes + len(label) + lengthBytes
	for _, part := range parts {
		size += lengthBytes + len(part)
	}
	return size
}

// appendLength: a number behind other bytes, its lowest byte first.
func appendLength(b []byte, n int) []byte {
	for i := range lengthBytes {
		b = append(b, byte(n>>(8*i)))
	}
	return b
}
