package ipa_test

// What the tests of this package hold the answers against: statements whose elements stand for known numbers, the rounds of the document's words done with math/big, and Oracles that keep what they are told.

import (
	"encoding/binary"
	"math/big"
	"slices"
	"testing"

	"veil/api"
	"veil/ipa"
	"veil/msm"
	"veil/sample"
	"veil/scalar"
	"veil/transcript"
)

type numbers = sample.Numbers

// stated: what a statement's elements stand for.
type stated struct {
	p, q numbers
	g, h []numbers
}

// argued: what an argument's elements stand for, and its scalars.
type argued struct {
	l, r []numbers
	a, b *big.Int
}

func plus(x, y *big.Int) *big.Int  { return sample.Mod(new(big.Int).Add(x, y)) }
func times(x, y *big.Int) *big.Int { return sample.Mod(new(big.Int).Mul(x, y)) }
func inverse(x *big.Int) *big.Int  { return new(big.Int).ModInverse(x, sample.L()) }
func negative(x *big.Int) *big.Int { return sample.Mod(new(big.Int).Neg(x)) }

// inner: <a, b>.
func inner(a, b numbers) *big.Int {
	sum := new(big.Int)
	for i := range a {
		sum = plus(sum, times(a[i], b[i]))
	}
	return sum
}

// summed: <ks, elements>.
func summed(ks numbers, elements []numbers) numbers {
	sum := numbers{}
	for i, k := range ks {
		sum = sum.Plus(elements[i].Times(k))
	}
	return sum
}

// image: <a, g> + <b, h> + <a, b> q.
func image(q numbers, g, h []numbers, a, b numbers) numbers {
	return summed(a, g).Plus(summed(b, h)).Plus(q.Times(inner(a, b)))
}

func lo[T any](list []T) []T { return list[:len(list)/2] }
func hi[T any](list []T) []T { return list[len(list)/2:] }

// mixed: x lo + y hi, of elements.
func mixed(x, y *big.Int, list []numbers) []numbers {
	var out []numbers
	for i := range len(list) / 2 {
		out = append(out, lo(list)[i].Times(x).Plus(hi(list)[i].Times(y)))
	}
	return out
}

// folded: a statement by a round's elements and its challenge.
func (s stated) folded(l, r numbers, u *big.Int) stated {
	v := inverse(u)
	return stated{
		p: l.Times(times(u, u)).Plus(s.p).Plus(r.Times(times(v, v))),
		q: s.q,
		g: mixed(v, u, s.g),
		h: mixed(u, v, s.h),
	}
}

// sent: the elements of a round.
func (s stated) sent(a, b numbers) (l, r numbers) {
	l = summed(lo(a), hi(s.g)).Plus(summed(hi(b), lo(s.h))).Plus(s.q.Times(inner(lo(a), hi(b))))
	r = summed(hi(a), lo(s.g)).Plus(summed(lo(b), hi(s.h))).Plus(s.q.Times(inner(hi(a), lo(b))))
	return l, r
}

// next: a and b behind a round.
func next(a, b numbers, u *big.Int) (numbers, numbers) {
	v := inverse(u)
	return numbers(lo(a)).Times(u).Plus(numbers(hi(a)).Times(v)), numbers(lo(b)).Times(v).Plus(numbers(hi(b)).Times(u))
}

// proved: the argument of a and b, round by round, by these challenges.
func (s stated) proved(a, b, us numbers) argued {
	x := argued{}
	for _, u := range us {
		l, r := s.sent(a, b)
		x.l, x.r = append(x.l, l), append(x.r, r)
		s = s.folded(l, r, u)
		a, b = next(a, b, u)
	}
	x.a, x.b = a[0], b[0]
	return x
}

// left: the last statement's p less what an argument says.
func (s stated) left(x argued, us numbers) numbers {
	for t, u := range us {
		s = s.folded(x.l[t], x.r[t], u)
	}
	return s.p.Plus(image(s.q, s.g, s.h, numbers{x.a}, numbers{x.b}).Times(big.NewInt(-1)))
}

// someNumbers: any, so many.
func someNumbers(m *sample.Maker, count int) numbers {
	list := make(numbers, count)
	for i := range list {
		list[i] = m.Number()
	}
	return list
}

// unlike: any but 0, so many, no two of the same square.
func unlike(m *sample.Maker, count int) numbers {
	var list numbers
	for len(list) < count {
		n := m.Number()
		met := n.Sign() == 0
		for _, other := range list {
			met = met || times(n, n).Cmp(times(other, other)) == 0
		}
		if !met {
			list = append(list, n)
		}
	}
	return list
}

// chances: any but 0, so many; 1 and -1 come up often.
func chances(m *sample.Maker, count int) numbers {
	var list numbers
	for len(list) < count {
		if n := m.Number(); n.Sign() != 0 {
			list = append(list, n)
		}
	}
	return list
}

// limbs: scalars that stand for numbers, by any of their limbs.
func limbs(m *sample.Maker, ns numbers) []scalar.Scalar {
	list := make([]scalar.Scalar, len(ns))
	for i, n := range ns {
		list[i] = m.Limbs(n)
	}
	return list
}

// anyStated: any numbers for a statement of this size.
func anyStated[P msm.Group[P]](m *sample.Maker, kind sample.Kind[P], size int) stated {
	s := stated{p: kind.Any(m), q: kind.Any(m)}
	for range size {
		s.g, s.h = append(s.g, kind.Any(m)), append(s.h, kind.Any(m))
	}
	return s
}

// anyArgued: any numbers for an argument of so many rounds.
func anyArgued[P msm.Group[P]](m *sample.Maker, kind sample.Kind[P], rounds int) argued {
	x := argued{a: m.Number(), b: m.Number()}
	for range rounds {
		x.l, x.r = append(x.l, kind.Any(m)), append(x.r, kind.Any(m))
	}
	return x
}

// elements: that stand for numbers, by any of their looks.
func elements[P msm.Group[P]](m *sample.Maker, kind sample.Kind[P], list []numbers) []P {
	var out []P
	for _, ns := range list {
		out = append(out, kind.Of(m, ns))
	}
	return out
}

func statement[P msm.Group[P]](m *sample.Maker, kind sample.Kind[P], s stated) ipa.Statement[P] {
	return ipa.Statement[P]{P: kind.Of(m, s.p), Q: kind.Of(m, s.q), G: elements(m, kind, s.g), H: elements(m, kind, s.h)}
}

func argument[P msm.Group[P]](m *sample.Maker, kind sample.Kind[P], x argued) ipa.Argument[P] {
	return ipa.Argument[P]{L: elements(m, kind, x.l), R: elements(m, kind, x.r), A: m.Limbs(x.a), B: m.Limbs(x.b)}
}

// are: elements must stand for these numbers.
func are[P msm.Group[P]](t *testing.T, what string, kind sample.Kind[P], got []P, want ...numbers) {
	t.Helper()
	if len(got) != len(want) {
		t.Fatalf("%s, over %s: %d elements, want %d", what, kind.Name, len(got), len(want))
	}
	for i, p := range got {
		if !kind.Is(p, want[i]) {
			t.Fatalf("%s, over %s: element %d is %v, want %v", what, kind.Name, i, kind.To(p), want[i])
		}
	}
}

// isStated: a statement must stand for these numbers.
func isStated[P msm.Group[P]](t *testing.T, what string, kind sample.Kind[P], got ipa.Statement[P], want stated) {
	t.Helper()
	are(t, what+": P and Q", kind, []P{got.P, got.Q}, want.p, want.q)
	are(t, what+": G", kind, got.G, want.g...)
	are(t, what+": H", kind, got.H, want.h...)
}

// isArgued: an argument must stand for these numbers, its scalars by their least limbs.
func isArgued[P msm.Group[P]](t *testing.T, what string, kind sample.Kind[P], got ipa.Argument[P], want argued) {
	t.Helper()
	are(t, what+": L", kind, got.L, want.l...)
	are(t, what+": R", kind, got.R, want.r...)
	told(t, what+": A and B", []scalar.Scalar{got.A, got.B}, numbers{want.a, want.b})
}

// told: scalars must be these numbers, by their least limbs.
func told(t *testing.T, what string, got []scalar.Scalar, want numbers) {
	t.Helper()
	if len(got) != len(want) {
		t.Fatalf("%s: %d scalars, want %d", what, len(got), len(want))
	}
	for i, k := range got {
		if k != sample.Scalar(want[i]) {
			t.Fatalf("%s: place %d is %v, want %v", what, i, k, sample.Scalar(want[i]))
		}
	}
}

// errno: an error must be this one.
func errno(t *testing.T, what string, got, want api.Errno) {
	t.Helper()
	if got != want {
		t.Errorf("%s: error %d, want %d", what, got, want)
	}
}

// right: OK, if it is so; else the error.
func right(so bool, e api.Errno) api.Errno {
	if so {
		return api.OK
	}
	return e
}

// first: the first of these that is an error.
func first(list ...api.Errno) api.Errno {
	for _, e := range list {
		if e != api.OK {
			return e
		}
	}
	return api.OK
}

// zeros: 0 by all its limbs.
func zeros() []scalar.Scalar { return sample.Scalars(new(big.Int)) }

// noArgument: what comes beside an error must be zero.
func noArgument[P any](t *testing.T, what string, x ipa.Argument[P], got, want api.Errno) {
	t.Helper()
	errno(t, what, got, want)
	if len(x.L) != 0 || len(x.R) != 0 || x.A != (scalar.Scalar{}) || x.B != (scalar.Scalar{}) {
		t.Errorf("%s: %v beside an error", what, x)
	}
}

// noList: what comes beside an error must be empty.
func noList[T any](t *testing.T, what string, list []T, got, want api.Errno) {
	t.Helper()
	errno(t, what, got, want)
	if len(list) != 0 {
		t.Errorf("%s: %v beside an error", what, list)
	}
}

// oracle: of the test's own: it answers its scalars one by one, by any limbs, then an error, with a scalar that is none; it keeps what it is told, and writes into it.
type oracle struct {
	list  []scalar.Scalar
	e     api.Errno
	heard []transcript.Said
}

func (o *oracle) Absorb(label string, parts ...[]byte) {
	said := transcript.Said{Label: label}
	for _, part := range parts {
		said.Parts = append(said.Parts, slices.Clone(part))
	}
	o.heard = append(o.heard, said)
	for i, part := range parts {
		whole := part[:cap(part)]
		for j := range whole {
			whole[j] ^= 0xff
		}
		parts[i] = nil
	}
}

func (o *oracle) Draw(label string) (scalar.Scalar, api.Errno) {
	o.heard = append(o.heard, transcript.Said{Draw: true, Label: label})
	if len(o.list) == 0 {
		return scalar.Int(77), o.e
	}
	u := o.list[0]
	o.list = o.list[1:]
	return u, api.OK
}

// le64: a number as 8 bytes.
func le64(n int) []byte { return binary.LittleEndian.AppendUint64(nil, uint64(n)) }

// saidOf: all that is said in an argument of this size, up to so many Draws.
func saidOf[P msm.Group[P]](kind sample.Kind[P], size int, x argued, draws int) []transcript.Said {
	part := func(label string, ns numbers) transcript.Said {
		b := kind.Of(new(sample.Maker), ns).Encode()
		return transcript.Said{Label: label, Parts: [][]byte{b[:]}}
	}
	list := []transcript.Said{{Label: "ipa", Parts: [][]byte{le64(size)}}}
	for t := range draws {
		list = append(list, part("L", x.l[t]), part("R", x.r[t]), transcript.Said{Draw: true, Label: "u"})
	}
	return list
}

// heard: all that was said must be this.
func heard(t *testing.T, what string, got []transcript.Said, want ...transcript.Said) {
	t.Helper()
	same := slices.EqualFunc(got, want, func(a, b transcript.Said) bool {
		return a.Draw == b.Draw && a.Label == b.Label && slices.EqualFunc(a.Parts, b.Parts, slices.Equal[[]byte])
	})
	if !same {
		t.Errorf("%s: was said %v, want %v", what, got, want)
	}
}

// sizes: with their rounds in the places' order: 1, 2, 4, ..
func sizes(most int) []int {
	var list []int
	for size := 1; size <= most; size *= 2 {
		list = append(list, size)
	}
	return list
}

// roundsOf: of a size.
func roundsOf(size int) int {
	count := 0
	for ; size > 1; size /= 2 {
		count++
	}
	return count
}

// line: a small number's element.
func line(k uint64) msm.Line { return msm.Line{K: scalar.Int(k)} }

func lines(ks ...uint64) []msm.Line {
	list := make([]msm.Line, len(ks))
	for i, k := range ks {
		list[i] = line(k)
	}
	return list
}

func ints(ks ...uint64) []scalar.Scalar {
	list := make([]scalar.Scalar, len(ks))
	for i, k := range ks {
		list[i] = scalar.Int(k)
	}
	return list
}
