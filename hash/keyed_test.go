package hash_test

import (
	"bytes"
	"crypto/hmac"
	"crypto/sha512"
	"encoding/binary"
	"testing"

	"veil/api"
	"veil/hash"
	"veil/sample"
)

// mac: HMAC by the library.
func mac(key, b []byte) api.Bytes64 {
	h := hmac.New(sha512.New, key)
	h.Write(b)
	return api.Bytes64(h.Sum(nil))
}

func TestP304KeysOfEveryLength(t *testing.T) {
	m := sample.Maker(310)
	keys, b := m.Bytes(300), m.Bytes(150)
	for n := range len(keys) + 1 {
		key := keys[:n]
		if hash.Mac(key, b) != mac(key, b) || hash.Mac(key) != mac(key, nil) {
			t.Errorf("Mac under a key of %d bytes", n)
		}
	}
}

func TestP304Parts(t *testing.T) {
	m := sample.Maker(311)
	for _, k := range []int{0, 20, 127, 128, 129, 400} {
		key := m.Bytes(k)
		for _, n := range edges() {
			b := m.Bytes(n)
			want := mac(key, b)
			if hash.Mac(key, b) != want || hash.Mac(key, b[:n/3], nil, b[n/3:]) != want || hash.Mac(key, cut(b, 7)...) != want {
				t.Errorf("Mac of %d bytes under a key of %d", n, k)
			}
		}
	}
}

func TestP304Known(t *testing.T) {
	// RFC 4231, the second case.
	got := hash.Mac([]byte("Jefe"), []byte("what do ya want for nothing?"))
	if want := []byte{0x16, 0x4b, 0x7a, 0x7b, 0xfc, 0xf8, 0x19, 0xe2}; !bytes.HasPrefix(got[:], want) {
		t.Errorf("Mac = %x, want %x..", got, want)
	}
}

// stream: a stretched seed by the library.
func stream(seed []byte, n int) []byte {
	var s []byte
	for i := uint64(0); len(s) < n; i++ {
		h := mac(seed, binary.LittleEndian.AppendUint64([]byte("stretch"), i))
		s = append(s, h[:]...)
	}
	return s[:n]
}

func TestP305Streams(t *testing.T) {
	m := sample.Maker(312)
	for _, k := range []int{0, 1, 32, 64, 127, 128, 129, 500} {
		seed := m.Bytes(k)
		want := stream(seed, 300)
		for n := range len(want) + 1 {
			if !bytes.Equal(hash.Stretch(seed, n), want[:n]) {
				t.Errorf("Stretch of a seed of %d bytes to %d", k, n)
			}
		}
	}
}

func TestP305Longest(t *testing.T) {
	seed := []byte("seed")
	want := stream(seed, api.MaxStream)
	for _, n := range []int{256 * 64, 256*64 + 1, 65536, api.MaxStream - 64, api.MaxStream - 1, api.MaxStream} {
		if got := hash.Stretch(seed, n); !bytes.Equal(got, want[:n]) {
			t.Errorf("Stretch to %d: %d bytes, not those of its Macs", n, len(got))
		}
	}
}
