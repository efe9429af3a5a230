package circuit_test

// P1905, P1909: systems as bytes, there and back.

import (
	"bytes"
	"encoding/binary"
	"fmt"
	"math/big"
	"slices"
	"testing"

	"veil/api"
	"veil/circuit"
	"veil/sample"
	"veil/scalar"
)

// systems: of all kinds, small ones.
func systems(t testing.TB) []pair {
	t.Helper()
	maker := sample.Maker(1905)
	list := []pair{newPair(t, 0), newPair(t, 1), newPair(t, 16), example(t)}
	for values := range 5 {
		for calls := range 4 {
			list = append(list, somePair(t, &maker, values, 2*calls))
		}
	}
	return list
}

func TestP1909ThereAndBack(t *testing.T) {
	list := append(systems(t), full(t, 0, 1024, 0), full(t, 16, 1024, 4096), full(t, 1, 127, 127), full(t, 1, 128, 128), full(t, 2, 300, 129))
	for i, p := range list {
		what := fmt.Sprintf("system %d", i)
		errno(t, what, decode(t, what, p.system.Encode()), api.OK)
		back, _ := circuit.Decode(p.system.Encode())
		// It goes on as the other one does.
		q := pair{back, p.model.clone()}
		q.same(t, what)
		q.gate(t, what)
		q.require(t, what, circuit.Of(unit))
		q.multiply(t, what, circuit.Of(unit), circuit.Const(num(2)))
		p.same(t, what+", whose bytes were decoded")
	}
}

// Two systems are the same just if their bytes are: each is unlike all that differ from it in one thing.
func TestP1909NoTwo(t *testing.T) {
	seen := map[string]int{}
	add := func(p pair) {
		seen[string(p.system.Encode())]++
	}
	for values := range 17 {
		add(newPair(t, values))
		add(full(t, values, values+1, 0))
		add(full(t, values, values, values+1))
		for _, w := range []circuit.Wire{unit, left(values), right(values), out(values), left(values + 1)} {
			for _, k := range []int64{1, 2, -1} {
				p := full(t, values, values+2, 0)
				p.require(t, "Require", circuit.Of(w).Times(num(k)))
				add(p)
			}
		}
	}
	if len(seen) != 17*(3+15) {
		t.Errorf("%d texts", len(seen))
	}
	// By whatever calls it was built, the same system has the same bytes.
	p, q := newPair(t, 1), newPair(t, 1)
	p.gate(t, "Gate")
	p.require(t, "Require", circuit.Lin{term(2, left(0)), term(1, unit), term(-1, left(0))})
	p.gate(t, "Gate")
	q.gate(t, "Gate")
	q.gate(t, "Gate")
	q.require(t, "Require", circuit.Lin{{Wire: unit, K: sample.Scalars(big.NewInt(1))[7]}, term(1, left(0))})
	if !bytes.Equal(p.system.Encode(), q.system.Encode()) {
		t.Errorf("the same system has two texts")
	}
}

func TestP1905EachBitTurned(t *testing.T) {
	taken := 0
	for i, p := range systems(t) {
		b := p.system.Encode()
		if len(b) > 1500 {
			continue
		}
		for at := range b {
			for bit := range 8 {
				other := slices.Clone(b)
				other[at] ^= 1 << bit
				if decode(t, fmt.Sprintf("system %d, bit %d of byte %d", i, bit, at), other) == api.OK {
					taken++
				}
			}
		}
	}
	if taken == 0 {
		t.Errorf("no byte that was turned made another system")
	}
}

func TestP1905EachByteAny(t *testing.T) {
	for i, p := range []pair{newPair(t, 0), newPair(t, 1), example(t)} {
		b := p.system.Encode()
		for at := range b {
			for c := range 256 {
				other := slices.Clone(b)
				other[at] = byte(c)
				decode(t, fmt.Sprintf("system %d, byte %d is %d", i, at, c), other)
			}
		}
	}
}

// Cut off anywhere, with bytes behind it, with a byte too many or too few inside.
func TestP1905CutAndLonger(t *testing.T) {
	for i, p := range systems(t) {
		b := p.system.Encode()
		if len(b) > 3000 {
			continue
		}
		for at := range b {
			what := fmt.Sprintf("system %d, %d", i, at)
			errno(t, what, decode(t, what+" cut off", b[:at]), api.ErrSystem)
			decode(t, what+" the front cut off", b[at+1:])
			decode(t, what+" a byte left out", slices.Concat(b[:at], b[at+1:]))
			for _, c := range []byte{0, 1, 128, 255} {
				decode(t, what+" a byte put in", slices.Concat(b[:at], []byte{c}, b[at:]))
			}
		}
		for _, rest := range [][]byte{{0}, {1}, {128}, {255, 255}, b} {
			if len(b) > 3 || len(rest) == 1 {
				errno(t, "bytes behind", decode(t, "bytes behind", append(slices.Clone(b), rest...)), api.ErrSystem)
			}
		}
	}
}

// All texts of up to two bytes, and all longer ones of few letters.
func TestP1905ShortTexts(t *testing.T) {
	taken := 0
	var try func(b []byte, letters []byte, more int)
	try = func(b []byte, letters []byte, more int) {
		if decode(t, fmt.Sprint(b), b) == api.OK {
			taken++
		}
		if more == 0 {
			return
		}
		for _, c := range letters {
			try(append(slices.Clone(b), c), letters, more-1)
		}
	}
	var all []byte
	for c := range 256 {
		all = append(all, byte(c))
	}
	try(nil, all, 2)
	try(nil, []byte{0, 1, 2, 3, 5, 16, 17, 127, 128, 129, 255}, 5)
	if taken < 40 {
		t.Errorf("%d systems", taken)
	}
}

// written: bytes of numbers and of other bytes, in turn.
func written(parts ...any) []byte {
	var b []byte
	for _, part := range parts {
		switch x := part.(type) {
		case int:
			b = binary.AppendUvarint(b, uint64(x))
		case []byte:
			b = append(b, x...)
		}
	}
	return b
}

// The limits of all numbers.
func TestP1905Limits(t *testing.T) {
	one := scalarBytes(1)
	empty := make([]byte, 5000)
	entries := func(n int) []byte { return full(t, n, n, n).system.Encode()[3:] }
	for i, c := range []struct {
		b    []byte
		want api.Errno
	}{
		{written(0, 1024, 0), api.OK},
		{written(0, 1025, 0), api.ErrSystem},
		{written(0, 1<<40, 0), api.ErrSystem},
		{written(0, 0, 4096, empty[:4096]), api.OK},
		{written(0, 0, 4096, empty[:4095]), api.ErrSystem},
		{written(0, 0, 4095, empty[:4096]), api.ErrSystem},
		{written(0, 0, 4097, empty[:4097]), api.ErrSystem},
		{written(0, 0, 1<<62), api.ErrSystem},
		{written(0, 0, 1, 1<<62), api.ErrSystem},
		{written(16, 16, 16, entries(16)), api.OK},
		{written(16, 15, 16, entries(16)), api.ErrSystem},
		{written(16, 17, 16, entries(16)), api.OK},
		{written(15, 16, 16, entries(16)), api.ErrSystem}, // value 15 is not there
		{written(15, 15, 15, entries(15)), api.OK},
		{written(17, 17, 17, entries(16), 2, 2, 16, one, 5, 16, scalarBytes(-1)), api.ErrSystem},
		{written(1<<63-1, 1024, 0), api.ErrSystem},
		{written(1, 1, 0), api.ErrSystem},
		{written(2, 2, 1, entries(1)), api.ErrSystem},
		{written(1, 2, 1, entries(1)), api.OK},
		{written(0, 5, 1, 1, 4, 4, one), api.OK},
		{written(0, 5, 1, 1, 4, 5, one), api.ErrSystem},
		{written(0, 5, 1, 1, 5, 0, one), api.ErrSystem},
		{written(0, 5, 1, 1, 0, 0, one), api.ErrSystem},
		{written(0, 5, 1, 1, 6, 0, one), api.ErrSystem},
		{written(0, 5, 1, 1, 1, 0, one), api.OK},
		{written(0, 5, 1, 1, 1, 1, one), api.ErrSystem},
		{written(0, 1024, 1, 1, 3, 1023, one), api.OK},
		{written(0, 1024, 1, 1, 3, 1024, one), api.ErrSystem},
		{written(0, 5, 1, 1, 2+1<<40, 0, one), api.ErrSystem},
		{written(0, 5, 1, 1, 2, 1<<40, one), api.ErrSystem},
		{written([]byte{0, 5, 1, 1, 2, 255, 255, 255, 255, 255, 255, 255, 255, 255, 1}, one), api.ErrSystem},
		{written([]byte{0, 5, 1, 1, 2, 128, 128, 128, 128, 128, 128, 128, 128, 128, 2}, one), api.ErrSystem},
		{written([]byte{0, 5, 1, 1, 130, 128, 128, 128, 128, 128, 128, 128, 128, 1, 0}, one), api.ErrSystem},
	} {
		errno(t, fmt.Sprintf("case %d", i), decode(t, fmt.Sprintf("case %d", i), c.b), c.want)
	}
}

// Every number written longer than it must be.
func TestP1905LongNumbers(t *testing.T) {
	p := example(t)
	parts := []any{1, 2, 3}
	for _, x := range p.model.requires {
		parts = append(parts, len(x))
		for _, y := range x {
			parts = append(parts, y.wire.Kind, y.wire.I, sample.Bytes(y.k, 32))
		}
	}
	if !bytes.Equal(written(parts...), p.system.Encode()) {
		t.Fatalf("the bytes are put together wrongly")
	}
	for i, part := range parts {
		n, ok := part.(int)
		if !ok {
			continue
		}
		for size := 2; size <= 11; size++ {
			long := bytes.Repeat([]byte{128}, size)
			long[0], long[size-1] = byte(n)|128, 0
			other := slices.Clone(parts)
			other[i] = long
			errno(t, "longer", decode(t, fmt.Sprintf("number %d by %d bytes", i, size), written(other...)), api.ErrSystem)
		}
	}
}

// Terms must rise, each wire once, no factor 0, canonical factors.
func TestP1905Terms(t *testing.T) {
	one, minus := scalarBytes(1), scalarBytes(-1)
	wires := []circuit.Wire{unit, left(0), left(1), left(200), right(0), right(3), out(0), out(299), value(0)}
	first := full(t, 1, 300, 1).system.Encode()
	head := slices.Concat([]byte{first[0], first[1], first[2], 2}, first[4:]) // two requirements
	for i, v := range wires {
		for j, w := range wires {
			b := written(head, 2, v.Kind, v.I, one, w.Kind, w.I, minus)
			want := api.OK
			if j <= i {
				want = api.ErrSystem
			}
			errno(t, "two terms", decode(t, fmt.Sprint(v, " ahead of ", w), b), want)
		}
		l := sample.L()
		full256 := new(big.Int).Sub(sample.Power2(256), big.NewInt(1))
		for _, n := range []*big.Int{new(big.Int), big.NewInt(1), new(big.Int).Sub(l, big.NewInt(1)), l, new(big.Int).Add(l, big.NewInt(1)), sample.Power2(255), full256} {
			k := sample.Bytes(n, 32)
			want := api.ErrSystem
			if n.Sign() > 0 && n.Cmp(l) < 0 {
				want = api.OK
			}
			errno(t, "one term", decode(t, fmt.Sprint(n, " times ", v), written(head, 1, v.Kind, v.I, k)), want)
		}
	}
}

// The requirements that each system begins with: nothing else is taken in their place.
func TestP1905First(t *testing.T) {
	one, minus := scalarBytes(1), scalarBytes(-1)
	entry := func(j int) []byte { return written(2, 2, j, one, 5, j, minus) }
	none := []byte{0}
	for i, c := range []struct {
		b    []byte
		want api.Errno
	}{
		{written(1, 1, 1, entry(0)), api.OK},
		{written(1, 1, 1, none), api.ErrSystem},
		{written(1, 1, 2, none, entry(0)), api.ErrSystem},
		{written(1, 1, 2, entry(0), none), api.OK},
		{written(1, 1, 2, entry(0), entry(0)), api.OK},
		{written(1, 1, 1, 2, 2, 0, minus, 5, 0, one), api.ErrSystem},
		{written(1, 1, 1, 2, 2, 0, one, 5, 0, one), api.ErrSystem},
		{written(1, 1, 1, 2, 2, 0, scalarBytes(2), 5, 0, scalarBytes(-2)), api.ErrSystem},
		{written(1, 1, 1, 2, 3, 0, one, 5, 0, minus), api.ErrSystem},
		{written(1, 1, 1, 2, 4, 0, one, 5, 0, minus), api.ErrSystem},
		{written(1, 2, 1, 2, 2, 1, one, 5, 0, minus), api.ErrSystem},
		{written(1, 1, 1, 1, 2, 0, one), api.ErrSystem},
		{written(1, 1, 1, 1, 5, 0, minus), api.ErrSystem},
		{written(1, 1, 1, 3, 1, 0, one, 2, 0, one, 5, 0, minus), api.ErrSystem},
		{written(1, 1, 1, 3, 2, 0, one, 3, 0, one, 5, 0, minus), api.ErrSystem},
		{written(2, 2, 2, entry(0), entry(1)), api.OK},
		{written(2, 2, 2, entry(1), entry(0)), api.ErrSystem},
		{written(2, 2, 2, entry(0), entry(0)), api.ErrSystem},
		{written(2, 2, 3, entry(0), none, entry(1)), api.ErrSystem},
		{written(2, 2, 1, entry(0)), api.ErrSystem},
		{written(2, 1, 2, entry(0), entry(1)), api.ErrSystem},
		{written(0, 1, 1, 2, 2, 0, one, 5, 0, minus), api.ErrSystem},
	} {
		errno(t, fmt.Sprintf("case %d", i), decode(t, fmt.Sprintf("case %d", i), c.b), c.want)
	}
}

// longest: a sum of all wires that there can be.
func longest(k int64) circuit.Lin {
	a := circuit.Const(num(k))
	for kind := 2; kind <= 4; kind++ {
		for i := range api.MaxGates {
			a = append(a, term(k+int64(i), circuit.Wire{Kind: kind, I: i}))
		}
	}
	for j := range api.MaxCount {
		a = append(a, term(-k, value(j)))
	}
	return a
}

func TestP1905LongestSums(t *testing.T) {
	p := full(t, 16, 1024, 16)
	if n := len(longest(1).Least()); n != 3089 {
		t.Fatalf("%d terms", n)
	}
	turned := longest(5)
	slices.Reverse(turned)
	errno(t, "the longest", p.require(t, "the longest", longest(1)), api.OK)
	errno(t, "turned round", p.require(t, "turned round", turned), api.OK)
	b := p.system.Encode()
	errno(t, "there and back", decode(t, "there and back", b), api.OK)
	// A term more: some wire stands in it twice.
	head := len(full(t, 16, 1024, 16).system.Encode())
	at := head + 2
	if got, _ := binary.Uvarint(b[head:]); got != 3089 {
		t.Fatalf("the length is not there")
	}
	longer := written(b[:head], 3090, b[at:at+34], b[at:])
	errno(t, "a term more", decode(t, "a term more", longer), api.ErrSystem)
	shorter := written(b[:head], 3088, b[at+34:])
	errno(t, "a term less", decode(t, "a term less", shorter), api.OK)
}

// A great system does not take longer than its bytes ask for.
func TestP1905Great(t *testing.T) {
	s, _ := circuit.New(16)
	for range api.MaxGates - 16 {
		s.Gate()
	}
	for n := range 150 {
		if e := s.Require(longest(int64(n + 1))); e != api.OK {
			t.Fatalf("Require: %d", e)
		}
	}
	b := s.Encode()
	back, e := circuit.Decode(b)
	if e != api.OK || !bytes.Equal(back.Encode(), b) || back.Requires() != 166 {
		t.Errorf("there and back: %d", e)
	}
	b[len(b)-1] ^= 128
	if back, e := circuit.Decode(b); e != api.ErrSystem || back != nil {
		t.Errorf("turned: %d", e)
	}
}

// Any bytes that begin as a system does.
func TestP1905AnyBytes(t *testing.T) {
	maker := sample.Maker(6)
	taken := 0
	for range 4000 {
		gates := int(maker.Next() % 4)
		parts := []any{0, gates, 1 + int(maker.Next()%3)}
		for range int(maker.Next() % 4) {
			terms := int(maker.Next() % 3)
			parts = append(parts, terms)
			for range terms {
				k := scalar.Int(maker.Next() % 3).Encode()
				parts = append(parts, int(1+maker.Next()%5), int(maker.Next()%3), k[:])
			}
		}
		if decode(t, fmt.Sprint(parts...), written(parts...)) == api.OK {
			taken++
		}
	}
	if taken < 50 {
		t.Errorf("%d systems", taken)
	}
}
