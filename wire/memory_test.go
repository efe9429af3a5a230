package wire_test

// P1001, and the document's rules: Readers that there are not, what is handed in is left alone and not kept, what is handed out is new.

import (
	"bytes"
	"slices"
	"testing"

	"veil/api"
	"veil/group"
	"veil/msm"
	"veil/sample"
	"veil/scalar"
	"veil/wire"
)

func TestP1001NoReader(t *testing.T) {
	var none *wire.Reader
	for _, r := range []*wire.Reader{none, {}, new(wire.Reader)} {
		for range 2 {
			calls := 0
			one := func(r *wire.Reader) int { calls++; return 1 }
			if r.Number(anySize) != 0 || r.Bytes(9) != nil || r.Bytes(-1) != nil || r.Bytes32() != (api.Bytes32{}) || r.Scalar() != (scalar.Scalar{}) {
				t.Error("no Reader answers more than a zero value")
			}
			if wire.Point[group.Point](r) != (group.Point{}) || wire.Point[msm.Free](r).K != nil || wire.Point[*sample.Box](r) != nil || wire.Point[sample.Wild](r) != 0 {
				t.Error("no Reader answers an element")
			}
			if wire.List(r, 5, one) != nil || wire.List(r, -1, one) != nil || wire.List[int](r, 5, nil) != nil || calls != 0 {
				t.Error("no Reader answers a list")
			}
			r.Fail(api.ErrTx)
			r.Fail(api.OK)
			if r.Left() != 0 || r.Err() != api.ErrArg || r.End() != api.ErrArg {
				t.Errorf("no Reader: %d left, %d, %d", r.Left(), r.Err(), r.End())
			}
		}
	}
}

func TestP1001AppendLeavesItsRoom(t *testing.T) {
	m := sample.Maker(1001)
	room := m.Bytes(200)
	was := slices.Clone(room)
	for _, n := range []int{0, 1, 5, 100, 200} {
		for _, k := range []int{0, 1, 50, 130} {
			x := room[len(room)-k:]
			for _, got := range [][]byte{wire.AppendNumber(room[:n], uint64(k)), wire.AppendNumber(room[:n], anySize), wire.AppendBytes(room[:n], x), wire.AppendBytes(room[:n], room[:n]), wire.AppendBytes(nil, x)} {
				clear(got[:cap(got)])
				if !bytes.Equal(room, was) {
					t.Fatalf("what was handed in, or the room behind it, has changed (%d, %d)", n, k)
				}
			}
			got := wire.AppendBytes(room[:n], x)
			number := wire.AppendNumber(room[:n], 300)
			clear(room)
			if !bytes.Equal(got, slices.Concat(was[:n], writtenList(was[len(was)-k:]))) || !bytes.Equal(number, slices.Concat(was[:n], []byte{172, 2})) {
				t.Fatalf("what was handed in is kept (%d, %d)", n, k)
			}
			copy(room, was)
		}
	}
}

// The bytes of x may stand in the room behind b.
func TestP1001AppendOfItsOwnRoom(t *testing.T) {
	room := []byte{1, 2, 3, 4, 5, 6}
	if got := wire.AppendBytes(room[:2], room[2:5]); !bytes.Equal(got, []byte{1, 2, 3, 3, 4, 5}) || !bytes.Equal(room, []byte{1, 2, 3, 4, 5, 6}) {
		t.Errorf("%v, %v", got, room)
	}
}

// content: some bytes that every reading call takes something of.
func content() []byte {
	one, base := scalar.Int(1).Encode(), group.Base().Encode()
	return slices.Concat([]byte{172, 2, 3, 7, 8, 9}, one[:], one[:], base[:], []byte{2, 1, 5, 1, 6})
}

// readAll: reads it, writes into the lists, and tells what was read wrong.
func readAll(t *testing.T, r *wire.Reader) {
	t.Helper()
	one := scalar.Int(1).Encode()
	number := r.Number(300)
	list := r.Bytes(3)
	ok := number == 300 && bytes.Equal(list, []byte{7, 8, 9})
	clear(list[:cap(list)])
	ok = ok && r.Bytes32() == one && r.Scalar() == scalar.Int(1) && wire.Point[group.Point](r).Same(group.Base())
	rows := wire.List(r, 2, func(r *wire.Reader) []byte { return r.Bytes(1) })
	ok = ok && len(rows) == 2 && bytes.Equal(rows[0], []byte{5}) && bytes.Equal(rows[1], []byte{6})
	if !ok || r.End() != api.OK {
		t.Errorf("%d, %v, %v, fault %d", number, list, rows, r.Err())
		return
	}
	clear(rows[0][:cap(rows[0])])
	if rows[1][0] != 6 {
		t.Error("two lists share memory")
	}
}

func TestP1001ReadersReadACopy(t *testing.T) {
	b := content()
	room := slices.Concat(b, []byte{1, 2, 3})
	was := slices.Clone(room)
	r, other := wire.NewReader(room[:len(b)]), wire.NewReader(room[:len(b)])
	readAll(t, r)
	if !bytes.Equal(room, was) {
		t.Error("the bytes, or the room behind them, have changed")
	}
	clear(room)
	readAll(t, other)
}

// A list that was read stays as it is, whatever is read or written behind it.
func TestP1001ListsAreNewMemory(t *testing.T) {
	b := []byte{2, 1, 2, 2, 3, 4, 0, 2, 5, 6}
	r := wire.NewReader(b)
	var lists [][]byte
	for range 4 {
		lists = append(lists, r.Bytes(2))
	}
	for i, want := range [][]byte{{1, 2}, {3, 4}, {}, {5, 6}} {
		if !bytes.Equal(lists[i], want) {
			t.Errorf("list %d = %v", i, lists[i])
		}
		clear(lists[i][:cap(lists[i])])
		lists[i] = append(lists[i], 9, 9, 9)
	}
	if !bytes.Equal(lists[1], []byte{0, 0, 9, 9, 9}) || !bytes.Equal(lists[3], []byte{0, 0, 9, 9, 9}) {
		t.Errorf("lists share memory: %v", lists)
	}
}

// What is written into a list is not seen by a Reader that goes the same way again.
func TestP1001ListsAreNotTheReaders(t *testing.T) {
	r := wire.NewReader([]byte{2, 1, 2, 7})
	early := *r
	list := r.Bytes(2)
	clear(list[:cap(list)])
	if again := early.Bytes(2); !bytes.Equal(again, []byte{1, 2}) || early.Left() != 1 {
		t.Errorf("%v, %d left", again, early.Left())
	}
}

func TestP1001TwoReadersGoTheirOwnWays(t *testing.T) {
	b := []byte{1, 2, 3}
	r, other := wire.NewReader(b), wire.NewReader(b)
	r.Number(9)
	r.Fail(api.ErrTx)
	if other.Left() != 3 || other.Err() != api.OK || other.Number(9) != 1 || r.Left() != 2 {
		t.Errorf("%d, %d left", other.Err(), other.Left())
	}
}

func TestP1001HexIsNewMemory(t *testing.T) {
	room := []byte{1, 2, 3, 4}
	s := wire.Hex(room[:2])
	clear(room)
	one, _ := wire.Unhex(s)
	two, _ := wire.Unhex(s)
	clear(one[:cap(one)])
	if s != "0102" || !bytes.Equal(two, []byte{1, 2}) {
		t.Errorf("%q, %v", s, two)
	}
	room = []byte{1, 2, 3, 4}
	if wire.Hex(room[:2]); !bytes.Equal(room, []byte{1, 2, 3, 4}) {
		t.Errorf("Hex changes its bytes: %v", room)
	}
}

// freed: the scalars of a proof's Free elements and of the room behind them.
func freed(list []msm.Free) [][]scalar.Scalar {
	var all [][]scalar.Scalar
	for _, a := range list[:cap(list)] {
		all = append(all, slices.Clone(a.K[:cap(a.K)]))
	}
	return all
}

func TestP1001EncodeLeavesTheProof(t *testing.T) {
	m := sample.Maker(10010)
	p, want := proof(&m, sample.Frees(), 3)
	p.L = append(p.L, msm.Free{K: []scalar.Scalar{scalar.Int(7)}})[:3]
	p.R = append(p.R, msm.Free{K: []scalar.Scalar{scalar.Int(8)}})[:3]
	elements := func() []msm.Free { return []msm.Free{p.A, p.S, p.T1, p.T2} }
	left, right, first := freed(p.L), freed(p.R), freed(elements())
	one, _ := wire.EncodeProof(p)
	two, _ := wire.EncodeProof(p)
	clear(one[:cap(one)])
	if !bytes.Equal(two, want) {
		t.Error("two answers share memory")
	}
	same := func(a, b [][]scalar.Scalar) bool { return slices.EqualFunc(a, b, slices.Equal[[]scalar.Scalar]) }
	if !same(freed(p.L), left) || !same(freed(p.R), right) || !same(freed(elements()), first) {
		t.Error("the proof, or the room behind its lists, has changed")
	}
	for _, a := range slices.Concat(p.L, p.R, elements()) {
		clear(a.K)
	}
	clear(p.L)
	if !bytes.Equal(two, want) {
		t.Error("the proof is kept")
	}
}

func TestP1001DecodeLeavesTheBytes(t *testing.T) {
	m := sample.Maker(10011)
	want, b := proof(&m, sample.Lines(), 4)
	room := append(b, 1, 2, 3)
	was := slices.Clone(room)
	one, _ := wire.DecodeProof[msm.Line](room[:len(b)])
	two, _ := wire.DecodeProof[msm.Line](room[:len(b)])
	if !bytes.Equal(room, was) {
		t.Error("the bytes, or the room behind them, have changed")
	}
	clear(room)
	clear(one.L[:cap(one.L)])
	if !slices.EqualFunc(one.R, want.R, msm.Line.Same) {
		t.Error("L and R share memory")
	}
	clear(one.R[:cap(one.R)])
	one.L, one.R = append(one.L, msm.Line{K: scalar.Int(1)}), append(one.R, msm.Line{K: scalar.Int(2)})
	if !sameProof(two, want) {
		t.Error("the bytes are kept, or two answers share memory")
	}
}
