package msm_test

// P702 and P703: Line and Free.

import (
	"crypto/sha512"
	"math/big"
	"slices"
	"testing"

	"veil/api"
	"veil/msm"
	"veil/sample"
	"veil/scalar"
)

// edges: numbers from 0 to l - 1.
func edges(m *sample.Maker) numbers {
	l := sample.L()
	list := append(sample.Small(0, 1, 2, 3, -1, -2, -3), sample.Mod(sample.Power2(252)), sample.Mod(sample.Power2(64)), sample.Mod(new(big.Int).Rsh(l, 1)))
	for range 5 {
		list = append(list, m.Number())
	}
	return list
}

// least: an answer must have the least limbs of the number.
func least(t *testing.T, what string, got scalar.Scalar, want *big.Int) {
	t.Helper()
	if got != sample.Scalar(want) {
		t.Errorf("%s: limbs %x, want %x", what, got, sample.Scalar(want))
	}
}

func TestP702LineOperations(t *testing.T) {
	m := sample.Maker(701)
	for _, a := range edges(&m) {
		for _, x := range sample.Scalars(a) {
			line := msm.Line{K: x}
			least(t, "Neg", line.Neg().K, new(big.Int).Neg(a))
			least(t, "Double", line.Double().K, new(big.Int).Lsh(a, 1))
			if line.Encode() != sample.Bytes32(a) {
				t.Errorf("Encode of %v: %x", a, line.Encode())
			}
			for _, b := range edges(&m) {
				y := m.Limbs(b)
				other := msm.Line{K: y}
				least(t, "Add", line.Add(other).K, new(big.Int).Add(a, b))
				least(t, "Times", line.Times(y).K, new(big.Int).Mul(a, b))
				if line.Same(other) != (a.Cmp(b) == 0) {
					t.Errorf("Same of %v and %v: %v", a, b, line.Same(other))
				}
			}
			for _, y := range sample.Scalars(a) {
				if !line.Same(msm.Line{K: y}) {
					t.Errorf("Same of %x and %x, which stand for one scalar: false", x, y)
				}
			}
		}
	}
}

func TestP702LineDecode(t *testing.T) {
	m := sample.Maker(702)
	l, most := sample.L(), new(big.Int).Sub(sample.Power2(256), big.NewInt(1))
	list := append(edges(&m), l, new(big.Int).Add(l, big.NewInt(1)), new(big.Int).Lsh(l, 1), most)
	for range 20 {
		list = append(list, sample.Number(m.Bytes(32)))
	}
	for _, n := range list {
		for _, receiver := range []msm.Line{{}, {K: scalar.Int(5)}, {K: m.Limbs(m.Number())}} {
			got, e := receiver.Decode(sample.Bytes32(n))
			if n.Cmp(l) >= 0 {
				if e != api.ErrCanon || got != (msm.Line{}) {
					t.Errorf("Decode of %v: %v, error %d, want ErrCanon alone", n, got, e)
				}
				continue
			}
			if e != api.OK {
				t.Errorf("Decode of %v: error %d", n, e)
			}
			least(t, "Decode", got.K, n)
		}
	}
}

// leastList: an answer must be these numbers, without zeros at their end, by their least limbs.
func leastList(t *testing.T, what string, got msm.Free, want numbers) {
	t.Helper()
	for len(want) > 0 && want[len(want)-1].Sign() == 0 {
		want = want[:len(want)-1]
	}
	list := make([]scalar.Scalar, len(want))
	for i, n := range want {
		list[i] = sample.Scalar(n)
	}
	if !slices.Equal(got.K, list) {
		t.Errorf("%s: %x, want %x", what, got.K, list)
	}
}

// lists: that end with zeros, are all zeros, have none; of unlike lengths.
func lists(m *sample.Maker) []numbers {
	list := []numbers{nil, sample.Small(0), sample.Small(0, 0, 0), sample.Small(1), sample.Small(1, 0), sample.Small(-1), sample.Small(0, 5), sample.Small(1, 2, 3, 0, 0), sample.Small(-1, -2, -3), sample.Small(-1, 2, -3), sample.Small(7, 0, 0, 0, 0, 0, 0, 1)}
	for range 12 {
		list = append(list, frees().Any(m))
	}
	return list
}

// looks: the element by least limbs, and by others with and without zeros behind them.
func looks(m *sample.Maker, ns numbers) []msm.Free {
	list := []msm.Free{{}}
	for _, n := range ns {
		list[0].K = append(list[0].K, sample.Scalar(n))
	}
	for range 5 {
		list = append(list, frees().Of(m, ns))
	}
	return list
}

func TestP703FreeOperations(t *testing.T) {
	m := sample.Maker(703)
	for _, ns := range lists(&m) {
		for _, a := range looks(&m, ns) {
			leastList(t, "Neg", a.Neg(), ns.Times(big.NewInt(-1)))
			leastList(t, "Double", a.Double(), ns.Times(big.NewInt(2)))
			for _, k := range edges(&m) {
				leastList(t, "Times", a.Times(m.Limbs(k)), ns.Times(k))
			}
			for _, others := range lists(&m) {
				b := frees().Of(&m, others)
				leastList(t, "Add", a.Add(b), ns.Plus(others))
				leastList(t, "Add", b.Add(a), ns.Plus(others))
			}
		}
	}
}

func TestP703FreeSame(t *testing.T) {
	m := sample.Maker(704)
	for _, ns := range lists(&m) {
		for _, a := range looks(&m, ns) {
			for _, b := range looks(&m, ns) {
				if !a.Same(b) || !b.Same(a) {
					t.Errorf("%x and %x are the same", a, b)
				}
			}
			for _, others := range lists(&m) {
				if b := frees().Of(&m, others); a.Same(b) != ns.Same(others) {
					t.Errorf("Same of %v and %v: %v", ns, others, a.Same(b))
				}
			}
		}
	}
}

func TestP703FreeEncode(t *testing.T) {
	m := sample.Maker(705)
	for _, ns := range lists(&m) {
		said, full := []byte("free"), len(ns)
		for full > 0 && ns[full-1].Sign() == 0 {
			full--
		}
		for _, n := range ns[:full] {
			said = append(said, sample.Bytes(n, 32)...)
		}
		want := sha512.Sum512(said)
		for _, a := range looks(&m, ns) {
			if got := a.Encode(); string(got[:]) != string(want[:32]) {
				t.Errorf("Encode of %v: %x, want %x", ns, got, want[:32])
			}
		}
	}
}

func TestP703FreeDecode(t *testing.T) {
	m := sample.Maker(706)
	for _, ns := range lists(&m) {
		a := frees().Of(&m, ns)
		for _, b := range []api.Bytes32{{}, a.Encode(), msm.Free{}.Encode(), m.Bytes32()} {
			if got, e := a.Decode(b); e != api.ErrPoint || len(got.K) != 0 {
				t.Errorf("Decode: %x, error %d, want ErrPoint alone", got.K, e)
			}
		}
	}
}
