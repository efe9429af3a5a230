package scalar_test

import (
	"math"
	"math/big"
	"slices"
	"testing"

	"veil/api"
	"veil/sample"
	"veil/scalar"
)

// answers: what every call with a scalar answers, for one pair of them.
type answers struct {
	scalars [11]scalar.Scalar
	bytes   api.Bytes32
	flags   [3]bool
	lists   [3][]int
}

func ask(t *testing.T, a, b scalar.Scalar) answers {
	t.Helper()
	all := scalar.InvertAll(a, b)
	digits, e := a.Digits(5)
	naf, f := a.Naf(5)
	if e != api.OK || f != api.OK || len(all) != 2 {
		t.Fatalf("%v: errors %d, %d, %d inverses", a, e, f, len(all))
	}
	places := make([]int, 256)
	for i := range places {
		places[i] = a.Bit(i)
	}
	return answers{
		scalars: [11]scalar.Scalar{a.Least(), a.Add(b), a.Sub(b), a.Neg(), a.Mul(b), a.Power(7), a.Invert(), a.One(), scalar.Select(1, a, b), all[0], all[1]},
		bytes:   a.Encode(),
		flags:   [3]bool{a.Same(b), b.Same(a), a.IsZero()},
		lists:   [3][]int{digits, naf, places},
	}
}

func sameAnswers(x, y answers) bool {
	return x.scalars == y.scalars && x.bytes == y.bytes && x.flags == y.flags &&
		slices.EqualFunc(x.lists[:], y.lists[:], slices.Equal[[]int])
}

// ways: a number by all the limbs that stand for it.
func ways(n *big.Int) []scalar.Scalar {
	var list []scalar.Scalar
	for m := new(big.Int).Mod(n, l); m.BitLen() <= 256; m.Add(m, l) {
		list = append(list, limbs(m))
	}
	return list
}

// P201, and the chapter's words: limbs count through the least number alone, and each answer has the least ones.
func TestP201LimbsCountByTheirNumber(t *testing.T) {
	for _, n := range []*big.Int{new(big.Int), big1, big.NewInt(77), beyond, new(big.Int).Sub(l, big1), number(full), number(scalars(1)[0])} {
		for _, other := range []*big.Int{new(big.Int), n, new(big.Int).Sub(l, big.NewInt(5))} {
			want := ask(t, least(n), least(other))
			for _, a := range ways(n) {
				for _, b := range ways(other) {
					got := ask(t, a, b)
					if !sameAnswers(got, want) {
						t.Fatalf("of %v, %v other answers than of %v, %v: %v, want %v", a, b, least(n), least(other), got, want)
					}
					for _, s := range got.scalars {
						if s != least(whole(s)) {
							t.Fatalf("of %v, %v an answer that is not least: %v", a, b, s)
						}
					}
				}
			}
		}
	}
}

// P201: a panic in any call fails the test.
func TestP201EveryCallEnds(t *testing.T) {
	numbers := []int{math.MinInt, math.MinInt + 1, -64, -1, 0, 1, 2, 8, 12, 13, 63, 64, 252, 253, 254, 255, 256, 4096, 4097, 1 << 58, 1 << 60, math.MaxInt}
	for i, a := range edges() {
		for _, n := range numbers {
			ask(t, a, edges()[(i+1)%len(edges())])
			a.Power(uint64(n))
			a.Bit(n)
			scalar.Select(n, a, full)
			a.Digits(n)
			a.Naf(n)
			scalar.Tape(nil, n)
			scalar.Tape(make([]byte, 100), n)
		}
	}
}

// P201: what is handed in is not changed; what is handed out is new each time.
func TestP201Memory(t *testing.T) {
	xs := []scalar.Scalar{{2}, {}, full, primeOf, {9}}
	given := slices.Clone(xs)
	first := scalar.InvertAll(xs[:3]...)
	if !slices.Equal(xs, given) {
		t.Errorf("InvertAll changed what it was given: %v", xs)
	}
	first[0] = scalar.Int(99)
	if second := scalar.InvertAll(xs[:3]...); second[0] == first[0] || !slices.Equal(xs, given) {
		t.Errorf("a written answer of InvertAll is seen again: %v", second)
	}

	m := sample.Maker(11)
	stream := m.Bytes(200)
	was := slices.Clone(stream)
	tape, _ := scalar.Tape(stream[:128], 2)
	tape[1] = scalar.Int(99)
	if again, _ := scalar.Tape(stream[:128], 2); again[1] == tape[1] || !slices.Equal(stream, was) {
		t.Errorf("Tape shares memory")
	}

	d, _ := full.Digits(4)
	n, _ := full.Naf(4)
	d[0], n[0] = 99, 99
	againD, _ := full.Digits(4)
	againN, _ := full.Naf(4)
	if againD[0] == 99 || againN[0] == 99 {
		t.Errorf("Digits or Naf share memory: %d, %d", againD[0], againN[0])
	}
}

func TestP201LongListForInvertAll(t *testing.T) {
	m := sample.Maker(12)
	xs := make([]scalar.Scalar, 5*api.MaxVector+1)
	for i := range xs {
		if i%7 > 0 {
			xs[i] = anyScalar(&m)
		}
	}
	list := scalar.InvertAll(xs...)
	if len(list) != len(xs) {
		t.Fatalf("%d inverses of %d", len(list), len(xs))
	}
	for i, x := range xs {
		one := x.Mul(list[i])
		if x.IsZero() != list[i].IsZero() || !x.IsZero() && one != scalar.Int(1) {
			t.Fatalf("InvertAll in place %d: %v of %v", i, list[i], x)
		}
	}
}

func TestP203Sums(t *testing.T) {
	list := append(nearL(), scalars(20)...)
	for i, a := range list {
		check(t, a.Neg(), new(big.Int).Neg(whole(a)), "%v.Neg()", a)
		check(t, a.One(), big1, "%v.One()", a)
		for _, b := range list[i%3:] {
			check(t, a.Add(b), new(big.Int).Add(whole(a), whole(b)), "%v.Add(%v)", a, b)
			check(t, a.Sub(b), new(big.Int).Sub(whole(a), whole(b)), "%v.Sub(%v)", a, b)
		}
	}
}

func TestP203Products(t *testing.T) {
	list := append(nearL(), scalars(50)...)
	for _, a := range list {
		for _, b := range list {
			check(t, a.Mul(b), new(big.Int).Mul(whole(a), whole(b)), "%v.Mul(%v)", a, b)
		}
	}
	m := sample.Maker(3)
	for range 20000 {
		a, b := anyScalar(&m), anyScalar(&m)
		check(t, a.Mul(b), new(big.Int).Mul(whole(a), whole(b)), "%v.Mul(%v)", a, b)
	}
}

func TestP203Power(t *testing.T) {
	exponents := []uint64{0, 1, 2, 3, 4, 5, 7, 63, 64, 65, 255, 256, 65537, 1<<32 - 1, 1 << 32, 1 << 62, 1<<63 - 1, 1 << 63, maxLimb - 1, maxLimb}
	for i := range uint(64) {
		exponents = append(exponents, 1<<i)
	}
	for _, a := range scalars(20) {
		for _, e := range exponents {
			check(t, a.Power(e), new(big.Int).Exp(number(a), new(big.Int).SetUint64(e), l), "%v.Power(%d)", a, e)
		}
	}
}

// inverse: by math/big; 0 for 0, as P203 says.
func inverse(a scalar.Scalar) *big.Int {
	n := number(a)
	if n.Sign() == 0 {
		return n
	}
	return n.ModInverse(n, l)
}

func TestP203Invert(t *testing.T) {
	for _, a := range append(nearL(), scalars(200)...) {
		check(t, a.Invert(), inverse(a), "%v.Invert()", a)
	}
}

func TestP204SameIsZero(t *testing.T) {
	list := append(nearL(), scalars(20)...)
	for _, a := range list {
		if a.IsZero() != (number(a).Sign() == 0) {
			t.Errorf("%v.IsZero() = %v", a, a.IsZero())
		}
		for _, b := range list {
			if a.Same(b) != (number(a).Cmp(number(b)) == 0) {
				t.Errorf("%v.Same(%v) = %v", a, b, a.Same(b))
			}
		}
	}
	for i := range uint(253) {
		a := limbs(sample.Power2(i))
		if a.IsZero() || a.Same(scalar.Scalar{}) || !a.Same(a) {
			t.Errorf("2^%d counts as 0", i)
		}
	}
}

func TestP204Bit(t *testing.T) {
	for _, a := range append(nearL(), scalars(50)...) {
		for i := range 300 {
			if a.Bit(i) != int(number(a).Bit(i)) {
				t.Errorf("%v.Bit(%d) = %d", a, i, a.Bit(i))
			}
		}
		for _, i := range []int{math.MinInt, -256, -64, -1, 253, 254, 256, 257, 320, math.MaxInt} {
			if a.Bit(i) != 0 {
				t.Errorf("%v.Bit(%d) = %d", a, i, a.Bit(i))
			}
		}
	}
}

func TestP204Select(t *testing.T) {
	list := scalars(5)
	for _, a := range list {
		for _, b := range list {
			for _, odd := range []int{1, 3, -1, -3, math.MaxInt, math.MinInt + 1, 1<<32 + 1} {
				check(t, scalar.Select(odd, a, b), whole(a), "Select(%d, %v, %v)", odd, a, b)
			}
			for _, even := range []int{0, 2, -2, math.MinInt, math.MaxInt - 1, 1 << 32} {
				check(t, scalar.Select(even, a, b), whole(b), "Select(%d, %v, %v)", even, a, b)
			}
		}
	}
}

func TestP205InvertAll(t *testing.T) {
	lists := [][]scalar.Scalar{
		nil, {}, {{}}, {primeOf}, {{1}}, {full}, {{}, {}, primeOf}, {{}, {5}}, {{5}, {}}, {{5}, {}, {7}, primeOf, {5}},
		scalars(30), nearL(), append(scalars(0), scalars(10)...),
	}
	for _, xs := range lists {
		got := scalar.InvertAll(xs...)
		if len(got) != len(xs) {
			t.Errorf("%d inverses of %d", len(got), len(xs))
			continue
		}
		for i, x := range xs {
			check(t, got[i], inverse(x), "InvertAll of %d, place %d: %v", len(xs), i, x)
		}
	}
}

// The laws of P209, for three scalars.
func laws(t *testing.T, a, b, c scalar.Scalar) {
	t.Helper()
	one := scalar.Int(1)
	for _, law := range []struct {
		name string
		x, y scalar.Scalar
	}{
		{"a + b = b + a", a.Add(b), b.Add(a)},
		{"(a + b) + c = a + (b + c)", a.Add(b).Add(c), a.Add(b.Add(c))},
		{"a b = b a", a.Mul(b), b.Mul(a)},
		{"(a b) c = a (b c)", a.Mul(b).Mul(c), a.Mul(b.Mul(c))},
		{"a (b + c) = a b + a c", a.Mul(b.Add(c)), a.Mul(b).Add(a.Mul(c))},
		{"a + b - b = a", a.Add(b).Sub(b), a.Least()},
		{"a + b + -b = a", a.Add(b).Add(b.Neg()), a.Least()},
		{"a 1 = a", a.Mul(one), a.Least()},
		{"a^3 = a a a", a.Power(3), a.Mul(a).Mul(a)},
	} {
		if law.x != law.y {
			t.Errorf("%s: %v, %v for %v, %v, %v", law.name, law.x, law.y, a, b, c)
		}
	}
	if !b.IsZero() && a.Mul(b).Mul(b.Invert()) != a.Least() {
		t.Errorf("a b / b = a: not for %v, %v", a, b)
	}
}

func TestP209Field(t *testing.T) {
	list := scalars(5)
	for i, a := range list {
		for j, b := range list {
			laws(t, a, b, list[(i+2*j)%len(list)])
		}
	}
}
