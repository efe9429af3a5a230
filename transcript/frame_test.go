package transcript_test

import (
	"bytes"
	"encoding/binary"
	"slices"
	"strings"
	"testing"

	"veil/sample"
	"veil/transcript"
)

func TestP802Frames(t *testing.T) {
	m := sample.Maker(802)
	for range 2000 {
		label, parts := someText(&m), someParts(&m)
		if got, want := transcript.Frame(label, parts...), framed(label, parts...); !bytes.Equal(got, want) {
			t.Fatalf("Frame(%q, %q) = %x, want %x", label, parts, got, want)
		}
	}
}

func TestP802Lengths(t *testing.T) {
	for _, n := range []int{0, 1, 255, 256, 257, 65535, 65536, 1<<24 + 5} {
		b := bytes.Repeat([]byte{0xa5}, n)
		if got := transcript.Frame(string(b)); !bytes.Equal(got, framed(string(b))) {
			t.Errorf("a label of %d bytes", n)
		}
		if got := transcript.Frame("x", nil, b, b); !bytes.Equal(got, framed("x", nil, b, b)) {
			t.Errorf("parts of %d bytes", n)
		}
	}
	for _, n := range []int{255, 256, 257, 65536} {
		parts := make([][]byte, n)
		parts[n-1] = []byte{7}
		if got := transcript.Frame("x", parts...); len(got) != 16+8*n+2 || !bytes.Equal(got, framed("x", parts...)) {
			t.Errorf("%d parts", n)
		}
	}
}

func TestP802EveryByte(t *testing.T) {
	all := make([]byte, 256)
	for i := range all {
		all[i] = byte(i)
	}
	if got := transcript.Frame(string(all), all); !bytes.Equal(got, framed(string(all), all)) {
		t.Errorf("a label and a part of all bytes: %x", got)
	}
}

// short: all texts of up to so many bytes of few kinds.
func short(length int) []string {
	list := []string{""}
	for from := 0; length > 0; length-- {
		upTo := len(list)
		for _, s := range list[from:upTo] {
			for _, b := range []byte{0, 1, 8} {
				list = append(list, s+string([]byte{b}))
			}
		}
		from = upTo
	}
	return list
}

// lists: all lists of up to so many of these texts.
func lists(of []string, most int) [][]string {
	all := [][]string{nil}
	for from := 0; most > 0; most-- {
		upTo := len(all)
		for _, list := range all[from:upTo] {
			for _, s := range of {
				all = append(all, append(slices.Clone(list), s))
			}
		}
		from = upTo
	}
	return all
}

// apart: are all frames unlike, and none the beginning of another?
func apart(t *testing.T, frames []string) {
	t.Helper()
	slices.Sort(frames)
	for i := 1; i < len(frames); i++ {
		if strings.HasPrefix(frames[i], frames[i-1]) {
			t.Fatalf("%x begins as %x, which is a whole frame", frames[i], frames[i-1])
		}
	}
}

func TestP802FramesAreApart(t *testing.T) {
	var frames []string
	for _, label := range short(2) {
		for _, parts := range lists(short(2), 3) {
			frames = append(frames, string(transcript.Frame(label, texts(parts...)...)))
		}
	}
	apart(t, frames)
}

func TestP802FramesInFrames(t *testing.T) {
	var inner []string
	for _, label := range short(1) {
		for _, parts := range lists(short(1), 2) {
			inner = append(inner, string(transcript.Frame(label, texts(parts...)...)))
		}
	}
	var frames []string
	for _, a := range inner {
		frames = append(frames, a, string(transcript.Frame(a)), string(transcript.Frame("", []byte(a))))
		for _, b := range inner[:12] {
			frames = append(frames, string(transcript.Frame(a, []byte(b))), string(transcript.Frame("", []byte(a), []byte(b))), string(transcript.Frame("", []byte(a+b))))
		}
	}
	slices.Sort(frames)
	apart(t, slices.Compact(frames))
}

// unframed: what a frame frames, and what stands behind it.
func unframed(b []byte) (label string, parts [][]byte, rest []byte) {
	take := func() int {
		n := int(binary.LittleEndian.Uint64(b))
		b = b[8:]
		return n
	}
	cut := func() []byte {
		n := take()
		part := b[:n]
		b = b[n:]
		return part
	}
	label = string(cut())
	for range take() {
		parts = append(parts, cut())
	}
	return label, parts, b
}

func TestP802ReadBack(t *testing.T) {
	m := sample.Maker(8020)
	for range 2000 {
		label, parts, more := someText(&m), someParts(&m), m.Bytes(5)
		l, p, rest := unframed(append(transcript.Frame(label, parts...), more...))
		if l != label || !slices.EqualFunc(p, parts, bytes.Equal) || !bytes.Equal(rest, more) {
			t.Fatalf("Frame(%q, %q) is read back as %q, %q", label, parts, l, p)
		}
	}
}
