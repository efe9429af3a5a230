package wire

import (
	"slices"

	"veil/api"
	"veil/msm"
	"veil/scalar"
)

// Reader: bytes that are read from the front. The first fault stays.
type Reader struct {
	rest  []byte // behind its place
	fault api.Errno
	made  bool // by NewReader: others count as nil
}

// NewReader: over a copy of the bytes.
func NewReader(b []byte) *Reader { return &Reader{rest: slices.Clone(b), made: true} }

// none: of a nil Reader and of one that NewReader did not make.
func (r *Reader) none() bool { return r == nil || !r.made }

// Left: how many bytes are left.
func (r *Reader) Left() int {
	if r.none() {
		return 0
	}
	return len(r.rest)
}

// Fail: the first fault, if there was none yet.
func (r *Reader) Fail(e api.Errno) {
	if r.Err() == api.OK {
		r.fault = e
	}
}

// Err: the first fault so far.
func (r *Reader) Err() api.Errno {
	if r.none() {
		return api.ErrArg
	}
	return r.fault
}

// End: the first fault; api.ErrRest, if there is none and bytes are left.
func (r *Reader) End() api.Errno {
	if r.Left() != 0 {
		r.Fail(api.ErrRest)
	}
	return r.Err()
}

// read: what is told of the bytes behind the reader's place, and of how many. The place moves only where there is no fault.
func read[T any](r *Reader, told func(b []byte) (T, int, api.Errno)) T {
	var nothing T
	if r.Err() != api.OK {
		return nothing
	}
	x, size, e := told(r.rest)
	if e != api.OK {
		r.Fail(e)
		return nothing
	}
	r.rest = r.rest[size:]
	return x
}

// decoded: what the next 32 bytes stand for.
func decoded[T any](r *Reader, decode func(b api.Bytes32) (T, api.Errno)) T {
	return read(r, func(b []byte) (x T, size int, e api.Errno) {
		if len(b) < 32 {
			return x, 0, api.ErrEnd
		}
		x, e = decode(api.Bytes32(b[:32]))
		return x, 32, e
	})
}

// Number: a number, most at most.
func (r *Reader) Number(most uint64) uint64 {
	return read(r, func(b []byte) (uint64, int, api.Errno) { return number(b, most) })
}

// Bytes: a list of bytes, most of them at most.
func (r *Reader) Bytes(most int) []byte {
	return read(r, func(b []byte) ([]byte, int, api.Errno) {
		n, size, e := count(b, most)
		if e != api.OK {
			return nil, 0, e
		}
		if n > len(b)-size {
			return nil, 0, api.ErrEnd
		}
		return slices.Clone(b[size : size+n]), size + n, api.OK
	})
}

// Bytes32: 32 bytes as they stand.
func (r *Reader) Bytes32() api.Bytes32 {
	return decoded(r, func(b api.Bytes32) (api.Bytes32, api.Errno) { return b, api.OK })
}

// Scalar: 32 canonical bytes.
func (r *Reader) Scalar() scalar.Scalar { return decoded(r, scalar.Decode) }

// Point: a group element of 32 canonical bytes.
func Point[P msm.Group[P]](r *Reader) P {
	var neutral P
	return decoded(r, neutral.Decode)
}

// List: a number, most at most, and so many of what one reads.
func List[T any](r *Reader, most int, one func(r *Reader) T) []T {
	n := read(r, func(b []byte) (int, int, api.Errno) {
		if one == nil {
			return 0, 0, api.ErrArg
		}
		return count(b, min(most, api.MaxStream))
	})
	// The list grows as it is read: a number that is merely claimed makes no room.
	var list []T
	for range n {
		list = append(list, one(r))
		if r.Err() != api.OK {
			return nil
		}
	}
	return list
}
