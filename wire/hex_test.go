package wire_test

// P1007: hexadecimal texts.

import (
	"bytes"
	"encoding/hex"
	"strings"
	"testing"

	"veil/api"
	"veil/sample"
	"veil/wire"
)

const small16 = "0123456789abcdef"

func TestP1007Hex(t *testing.T) {
	m := sample.Maker(1007)
	all := make([]byte, 256)
	for i := range all {
		all[i] = byte(i)
		if got := wire.Hex(all[i : i+1]); got != string([]byte{small16[i/16], small16[i%16]}) {
			t.Errorf("Hex of %d = %q", i, got)
		}
	}
	for _, b := range [][]byte{nil, {}, all, m.Bytes(1), m.Bytes(31), m.Bytes(1000)} {
		if got := wire.Hex(b); got != hex.EncodeToString(b) {
			t.Errorf("Hex of %v = %q", b, got)
		}
	}
}

// unhexes: a text is taken just if it ought to be, and as the library takes it.
func unhexes(t *testing.T, s string) {
	t.Helper()
	want := api.OK
	if len(s)%2 != 0 || strings.Trim(s, small16) != "" {
		want = api.ErrHex
	}
	got, e := wire.Unhex(s)
	if e != want || e != api.OK && len(got) != 0 {
		t.Errorf("Unhex(%q) = %v, %d, want %d", s, got, e, want)
	}
	if b, err := hex.DecodeString(s); e == api.OK && (err != nil || !bytes.Equal(got, b)) {
		t.Errorf("Unhex(%q) = %v, want %v", s, got, b)
	}
}

func TestP1007Unhex(t *testing.T) {
	unhexes(t, "")
	for i := range 256 {
		unhexes(t, string([]byte{byte(i)}))
		for j := range 256 {
			unhexes(t, string([]byte{byte(i), byte(j)}))
		}
	}
}

func TestP1007LongTexts(t *testing.T) {
	m := sample.Maker(10070)
	for n := range 80 {
		s := hex.EncodeToString(m.Bytes(n))
		unhexes(t, s)
		unhexes(t, s+"0")
		unhexes(t, strings.ToUpper(s))
		for i := range s {
			unhexes(t, s[:i]+"G"+s[i+1:])
			unhexes(t, s[:i]+"A"+s[i+1:])
			unhexes(t, s[:i]+s[i+1:])
			unhexes(t, s[:i]+"\x80"+s[i+1:])
		}
	}
}

// Runes of several bytes, digits of other scripts among them, and such whose lowest bits are a digit's.
func TestP1007Runes(t *testing.T) {
	for _, s := range []string{"é", "0é1", "\u0130", "\u0161", "\u0130\u0130", "a\u0161b", "\u3030\u3030", "０１", "٠١", "😀", "0\U0001f630", "\U00010030", "a\u0301b", "\xff\xff", "\xc3", "0\xc3", "\xe3\x80", "\u0000\u0000", "0x", "0 ", " 0", "-1", "+1", "0\n", "00\n0", "０"} {
		unhexes(t, s)
		unhexes(t, s+"0")
		unhexes(t, "0"+s)
		unhexes(t, "00"+s)
	}
}
