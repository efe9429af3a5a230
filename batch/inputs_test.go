package batch_test

// Items that are made up: proven ones, such with something turned, such as nobody made, and such as can't be judged.

import (
	"bytes"
	"math/big"
	"slices"
	"testing"

	"veil/api"
	"veil/batch"
	"veil/gens"
	"veil/group"
	"veil/ranges"
	"veil/sample"
)

// Where the parts of a proof stand.
const (
	partA = 32 * iota
	partS
	partT1
	partT2
	partTauX
	partMu
	partThat
	partL
)

// proven: an item that is accepted.
func proven(t testing.TB, m *sample.Maker, label string, p api.Params) batch.Item {
	t.Helper()
	var vs []ranges.Opening
	for range p.Count {
		vs = append(vs, ranges.Opening{V: m.Next() & (uint64(1)<<p.Bits - 1), Blind: m.Limbs(m.Number())})
	}
	v, proof, e := ranges.ProveBytes(p, label, vs, m.Bytes(64*(2*p.Size()+4)))
	errno(t, "ProveBytes", e, api.OK)
	return batch.Item{Label: label, Params: p, V: v, Proof: proof}
}

// copied: the same item by memory of its own.
func copied(x batch.Item) batch.Item {
	x.V, x.Proof = slices.Clone(x.V), bytes.Clone(x.Proof)
	return x
}

// turned: with one bit of its proof turned.
func turned(x batch.Item, place int) batch.Item {
	x = copied(x)
	x.Proof[place] ^= 1
	return x
}

// put: with these bytes in a place of its proof.
func put(x batch.Item, place int, b api.Bytes32) batch.Item {
	x = copied(x)
	copy(x.Proof[place:], b[:])
	return x
}

// anyElement: of those that come up in a batch by themselves, too.
func anyElement(m *sample.Maker) group.Point {
	switch pick := m.Next() % 8; pick {
	case 0:
		return group.Point{}
	case 1:
		return group.Base()
	case 2:
		p, _ := gens.Point(api.GenBlind+int(m.Next()%2), 0)
		return p
	case 3:
		p, _ := gens.Point(api.GenLeft+int(m.Next()%2), int(m.Next()%3))
		return p.Times(m.Limbs(m.Number()))
	}
	return group.Base().Times(m.Limbs(m.Number()))
}

// anyItem: what nobody made, and yet can be judged.
func anyItem(m *sample.Maker, p api.Params) batch.Item {
	x := batch.Item{Label: string(m.Bytes(int(m.Next() % 4))), Params: p}
	for range p.Count {
		x.V = append(x.V, anyElement(m).Encode())
	}
	for part := range p.Length() / 32 {
		b := anyElement(m).Encode()
		if at := 32 * part; at >= partTauX && at < partL || at >= p.Length()-64 {
			b = sample.Scalar(m.Number()).Encode()
		}
		x.Proof = append(x.Proof, b[:]...)
	}
	return x
}

// noElement: bytes of a number below p that are not negative and yet no element.
func noElement(t testing.TB) api.Bytes32 {
	t.Helper()
	for n := byte(2); n < 200; n += 2 {
		if _, e := (group.Point{}).Decode(api.Bytes32{n}); e == api.ErrPoint {
			return api.Bytes32{n}
		}
	}
	t.Fatal("there is no such number")
	return api.Bytes32{}
}

// ofNumber: the bytes of a number that is no least scalar.
func ofNumber(n *big.Int) api.Bytes32 { return sample.Bytes32(n) }

// faulty: an item that can't be judged.
type faulty struct {
	name  string
	item  batch.Item
	fault api.Errno
}

// withParams: Params that are not allowed.
func withParams(good batch.Item) []faulty {
	const most = int(^uint(0) >> 1)
	var list []faulty
	for _, p := range []api.Params{
		{}, {Bits: 3, Count: 1}, {Bits: 8, Count: 3}, {Bits: 0, Count: 1}, {Bits: 1, Count: 0},
		{Bits: -1, Count: 1}, {Bits: 1, Count: -1}, {Bits: -2, Count: -2}, {Bits: -most - 1, Count: 1}, {Bits: 1, Count: -most - 1},
		{Bits: 128, Count: 1}, {Bits: 8, Count: 32}, {Bits: most, Count: most}, {Bits: most/2 + 1, Count: 4}, {Bits: most/2 + 1, Count: 1},
	} {
		bad := copied(good)
		bad.Params = p
		list = append(list, faulty{"Params", bad, api.ErrParams})
		bad.V, bad.Proof = nil, nil
		list = append(list, faulty{"Params and all else", bad, api.ErrParams})
	}
	return list
}

// withLengths: more or fewer bytes, or V.
func withLengths(good batch.Item) []faulty {
	var list []faulty
	long := append(slices.Clip(good.Proof), make([]byte, 64)...)
	for _, length := range []int{0, 1, 32, len(good.Proof) - 64, len(good.Proof) - 32, len(good.Proof) - 1, len(good.Proof) + 1, len(good.Proof) + 32, len(good.Proof) + 64} {
		bad := copied(good)
		bad.Proof = long[:length]
		list = append(list, faulty{"a proof of another length", bad, api.ErrLength})
		bad.V = slices.Clone(bad.V)
		bad.V[0] = api.Bytes32{1}
		list = append(list, faulty{"a proof of another length, and V", bad, api.ErrLength})
	}
	more := append(slices.Clip(good.V), good.V...)
	for _, count := range []int{0, 1, 3, 4} {
		bad := copied(good)
		bad.V = slices.Clone(more[:count])
		list = append(list, faulty{"other V", bad, api.ErrLength})
		bad = put(bad, partA, api.Bytes32{1})
		list = append(list, faulty{"other V, and the proof", bad, api.ErrLength})
		for j := range bad.V {
			bad.V[j] = api.Bytes32{1}
		}
		list = append(list, faulty{"other V, and such as are none", bad, api.ErrLength})
	}
	other := copied(good)
	other.Params = api.Params{Bits: good.Params.Size(), Count: 1}
	list = append(list, faulty{"Params of the same length", other, api.ErrLength})
	other.Params = api.Params{Bits: 1, Count: good.Params.Count}
	return append(list, faulty{"Params of the same Count", other, api.ErrLength})
}

// withBytes: such as are no element, or no least scalar.
func withBytes(t testing.TB, good batch.Item) []faulty {
	t.Helper()
	none, negative, full := noElement(t), api.Bytes32{1}, api.Bytes32(bytes.Repeat([]byte{255}, 32))
	var list []faulty
	add := func(name string, x batch.Item, fault api.Errno) { list = append(list, faulty{name, x, fault}) }
	for j := range good.V {
		for i, b := range []api.Bytes32{none, negative, full} {
			bad := copied(good)
			bad.V[j] = b
			add("V", bad, []api.Errno{api.ErrPoint, api.ErrCanon, api.ErrCanon}[i])
		}
	}
	for at := 0; at < len(good.Proof); at += 32 {
		if at >= partTauX && at < partL || at >= len(good.Proof)-64 {
			add("no least scalar", put(good, at, ofNumber(sample.L())), api.ErrCanon)
			add("no scalar", put(good, at, full), api.ErrCanon)
			continue
		}
		add("no element", put(good, at, none), api.ErrPoint)
		add("a negative number", put(good, at, negative), api.ErrCanon)
	}
	both := put(put(good, partMu, full), partS, none)
	add("S ahead of mu", both, api.ErrPoint)
	both = copied(both)
	both.V[1] = negative
	add("V ahead of S", both, api.ErrCanon)
	both = copied(both)
	both.V[0] = none
	add("V in their order", both, api.ErrPoint)
	return list
}

// allFaulty: items that can't be judged; ranges.Explain must say the same of each.
func allFaulty(t testing.TB) []faulty {
	t.Helper()
	m := sample.Maker(15)
	good := proven(t, &m, "good", api.Params{Bits: 2, Count: 2})
	list := slices.Concat(withParams(good), withLengths(good), withBytes(t, good))
	for _, f := range list {
		errno(t, "Explain: "+f.name, ranges.Explain(f.item.Params, f.item.Label, f.item.V, f.item.Proof), f.fault)
	}
	return list
}

// refused: items that can be judged and are not accepted, each with what fails.
func refused(t testing.TB, m *sample.Maker) []looked {
	t.Helper()
	p := api.Params{Bits: 2, Count: 2}
	good := proven(t, m, "good", p)
	other, swapped := copied(good), copied(good)
	other.Label = "other"
	swapped.V[0], swapped.V[1] = swapped.V[1], swapped.V[0]
	zeros := batch.Item{Label: "zeros", Params: p, V: make([]api.Bytes32, 2), Proof: make([]byte, p.Length())}
	var list []looked
	for _, c := range []struct {
		item batch.Item
		want api.Errno
	}{
		{turned(good, partTauX), api.ErrFirst}, {turned(good, partMu), api.ErrSecond}, {turned(good, partThat), api.ErrFirst},
		{turned(good, p.Length()-64), api.ErrSecond}, {turned(good, p.Length()-32), api.ErrSecond},
		{put(good, partL, good.V[0]), api.ErrSecond}, {put(good, partA, good.V[1]), api.ErrFirst},
		{other, api.ErrFirst}, {swapped, api.ErrFirst}, {zeros, api.ErrFirst},
	} {
		x := lookAt(t, c.item)
		errno(t, "Explain", x.explain, c.want)
		list = append(list, x)
	}
	return list
}

// right: items that are accepted, of unlike Params and labels.
func right(t testing.TB, m *sample.Maker) []looked {
	t.Helper()
	var list []looked
	for i, p := range []api.Params{{Bits: 1, Count: 1}, {Bits: 2, Count: 1}, {Bits: 1, Count: 2}, {Bits: 1, Count: 1}, {Bits: 4, Count: 1}, {Bits: 2, Count: 4}, {Bits: 8, Count: 1}, {Bits: 1, Count: 16}} {
		x := lookAt(t, proven(t, m, []string{"a", "", "a longer label", "\x00\xff"}[i%4], p))
		errno(t, "Explain", x.explain, api.OK)
		list = append(list, x)
	}
	return list
}

// found: what nobody made.
func found(t testing.TB, m *sample.Maker) []looked {
	t.Helper()
	var list []looked
	for _, p := range []api.Params{{Bits: 1, Count: 1}, {Bits: 1, Count: 2}, {Bits: 2, Count: 2}, {Bits: 1, Count: 1}, {Bits: 4, Count: 2}} {
		x := lookAt(t, anyItem(m, p))
		if !x.canBeJudged() {
			t.Fatalf("what nobody made can't be judged: %d", x.explain)
		}
		list = append(list, x)
	}
	return list
}

// pick: any of a list, so many.
func pick(m *sample.Maker, list []looked, count int) []looked {
	var out []looked
	for range count {
		out = append(out, list[m.Next()%uint64(len(list))])
	}
	return out
}
