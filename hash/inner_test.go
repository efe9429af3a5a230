package hash

import (
	"crypto/sha512"
	"encoding"
	"encoding/binary"
	"testing"

	"veil/api"
)

// These tests stand inside of the package: nobody can write 2^60 bytes to see where a State ends, and no call tells the constants.

func TestConstants(t *testing.T) {
	if rounds[0] != 0x428a2f98d728ae22 || rounds[79] != 0x6c44198c4a475817 {
		t.Errorf("K(0) = %x, K(79) = %x", rounds[0], rounds[79])
	}
	if first[0] != 0x6a09e667f3bcc908 || first[7] != 0x5be0cd19137e2179 {
		t.Errorf("H(0) = %x, H(7) = %x", first[0], first[7])
	}
}

// laidOut: so many zero bytes with what stands behind them, in so many blocks, as the chapter lays it out.
func laidOut(n, blocks int) []byte {
	b := append(make([]byte, n), 0x80)
	b = append(b, make([]byte, 128*blocks-len(b)-8)...)
	return binary.BigEndian.AppendUint64(b, uint64(8*n))
}

func TestExample3Blocks(t *testing.T) {
	for _, c := range []struct{ n, blocks int }{{0, 1}, {111, 1}, {112, 2}, {127, 2}, {128, 2}, {239, 2}, {240, 3}, {256, 3}} {
		w := first
		for b := laidOut(c.n, c.blocks); len(b) > 0; b = b[128:] {
			w = w.take((*block)(b))
		}
		if Sum(make([]byte, c.n)) != w.bytes() {
			t.Errorf("%d bytes are not laid out in %d blocks", c.n, c.blocks)
		}
	}
}

// long: a State that says that it has taken so many bytes, with the first state's words behind them; a block's place in it holds its own number.
func long(size uint64) *State {
	s := New()
	s.size = size
	for i := range size % blockBytes {
		s.block[i] = byte(i)
	}
	return s
}

// library: the hash of what such a State has taken and of b behind it, by the library.
func library(t *testing.T, s *State, b []byte) api.Bytes64 {
	t.Helper()
	text := []byte("sha\x07")
	for _, w := range s.words {
		text = binary.BigEndian.AppendUint64(text, w)
	}
	text = append(text, s.block[:]...)
	text = binary.BigEndian.AppendUint64(text, s.size)
	h := sha512.New()
	if err := h.(encoding.BinaryUnmarshaler).UnmarshalBinary(text); err != nil {
		t.Fatal(err)
	}
	h.Write(b)
	return api.Bytes64(h.Sum(nil))
}

func TestP302TakesNoMoreThanItsLimit(t *testing.T) {
	for _, room := range []uint64{0, 1, 2, 15, 16, 17, 127, 128, 129, 1000} {
		for _, n := range []uint64{0, 1, 2, 15, 16, 17, 127, 128, 129, 1000} {
			s, b := long(1<<60-room), make([]byte, n)
			was := *s
			want, size := library(t, s, nil), s.size
			if n <= room {
				want, size = library(t, s, b), s.size+n
			}
			s.Write(b)
			if s.Sum() != want || s.Size() != int(size) {
				t.Errorf("room for %d bytes, %d written: Size %d, Sum %x", room, n, s.Size(), s.Sum())
			}
			if n > room && *s != was {
				t.Errorf("room for %d bytes, %d written: the State has changed", room, n)
			}
		}
	}
}

func TestP302GoesOnBehindWhatWasTooMuch(t *testing.T) {
	s, c := long(1<<60-3), long(1<<60-3)
	s.Write(make([]byte, 4))
	s.Write([]byte{7, 8})
	s.Write(make([]byte, 2))
	s.Write([]byte{9})
	s.Write([]byte{1})
	if want := library(t, c, []byte{7, 8, 9}); s.Sum() != want || s.Size() != 1<<60 {
		t.Errorf("Size %d, Sum %x", s.Size(), s.Sum())
	}
	s.Write(nil)
	s.Reset()
	s.Write([]byte("abc"))
	if s.Size() != 3 || s.Sum() != Sum([]byte("abc")) {
		t.Errorf("behind Reset: Size %d", s.Size())
	}
}
