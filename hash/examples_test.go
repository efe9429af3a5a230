package hash_test

import (
	"bytes"
	"encoding/hex"
	"slices"
	"strings"
	"testing"

	"veil/api"
	"veil/hash"
)

// begins: a hash begins with these digits to the base 16.
func begins(t *testing.T, what string, got api.Bytes64, want string) {
	t.Helper()
	if !strings.HasPrefix(hex.EncodeToString(got[:]), want) {
		t.Errorf("%s = %x, want %s..", what, got, want)
	}
}

const (
	ofNothing = "cf83e1357eefb8bd"
	ofABC     = "ddaf35a193617aba"
)

func TestExample1Sum(t *testing.T) {
	begins(t, "Sum()", hash.Sum(), ofNothing)
	begins(t, "Sum(abc)", hash.Sum([]byte("abc")), ofABC)
	begins(t, "Sum(a, , bc)", hash.Sum([]byte("a"), []byte(""), []byte("bc")), ofABC)
}

func TestExample2State(t *testing.T) {
	s := hash.New()
	s.Write([]byte("ab"))
	ab := s.Sum()
	c := s.Clone()
	s.Write([]byte("c"))
	begins(t, "the second Sum", s.Sum(), ofABC)
	if s.Size() != 3 || c.Sum() != ab || ab != hash.Sum([]byte("ab")) {
		t.Errorf("Size %d; the clone's Sum %x", s.Size(), c.Sum())
	}
}

func TestExample4Keys(t *testing.T) {
	if hash.Mac(nil) != hash.Mac(make([]byte, 128)) {
		t.Error("an empty key is not as 128 zero bytes")
	}
	for n, as := range map[int]bool{128: false, 129: true} {
		key := bytes.Repeat([]byte("k"), n)
		h := hash.Sum(key)
		if (hash.Mac(key, []byte("part")) == hash.Mac(h[:], []byte("part"))) != as {
			t.Errorf("a key of %d bytes: as its hash not %v", n, as)
		}
	}
}

func TestExample5Stretch(t *testing.T) {
	seed := []byte("seed")
	for _, n := range []int{-1, 0, 1048577} {
		if got := hash.Stretch(seed, n); len(got) != 0 {
			t.Errorf("Stretch(seed, %d) has %d bytes", n, len(got))
		}
	}
	a := hash.Mac(seed, []byte("stretch"), make([]byte, 8))
	b := hash.Mac(seed, []byte("stretch"), []byte{1, 0, 0, 0, 0, 0, 0, 0})
	if !bytes.Equal(hash.Stretch(seed, 100), slices.Concat(a[:], b[:])[:100]) {
		t.Error("Stretch(seed, 100) is not of its two Macs")
	}
}

func TestExample6Root(t *testing.T) {
	leaf := func(x string) []byte {
		h := hash.Sum([]byte{0}, []byte(x))
		return h[:]
	}
	left := hash.Sum([]byte{1}, leaf("a"), leaf("b"))
	if hash.Root([]byte("a"), []byte("b"), []byte("c")) != hash.Sum([]byte{1}, left[:], leaf("c")) {
		t.Error("Root of three leaves")
	}
	if hash.Root([]byte("")) != hash.Sum([]byte{0}) || hash.Root([]byte("")) == hash.Sum() {
		t.Error("Root of one empty leaf")
	}
}
