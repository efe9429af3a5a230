package sigma_test

// What the tests of this package hold the answers against: claims whose elements stand for known numbers, images worked out with math/big, and Oracles that keep what they are told.

import (
	"encoding/binary"
	"math/big"
	"slices"
	"testing"

	"veil/api"
	"veil/msm"
	"veil/sample"
	"veil/scalar"
	"veil/sigma"
	"veil/transcript"
)

type numbers = sample.Numbers

// known: a claim, and what its elements stand for.
type known[P msm.Group[P]] struct {
	kind   sample.Kind[P]
	claim  sigma.Claim[P]
	rows   [][]numbers
	images []numbers
}

// anyClaim: with any elements, images too; so many rows, so wide.
func anyClaim[P msm.Group[P]](m *sample.Maker, kind sample.Kind[P], rows, width int) known[P] {
	c := known[P]{kind: kind}
	for range rows {
		var ns []numbers
		var ps []P
		for range width {
			ns = append(ns, kind.Any(m))
			ps = append(ps, kind.Of(m, ns[len(ns)-1]))
		}
		c.rows, c.claim.Rows = append(c.rows, ns), append(c.claim.Rows, ps)
		image := kind.Any(m)
		c.images, c.claim.Images = append(c.images, image), append(c.claim.Images, kind.Of(m, image))
	}
	return c
}

// trueClaim: with any rows, and the images of any numbers.
func trueClaim[P msm.Group[P]](m *sample.Maker, kind sample.Kind[P], rows, width int) (known[P], numbers) {
	c, xs := anyClaim(m, kind, rows, width), someNumbers(m, width)
	for i := range c.rows {
		c.images[i] = c.image(i, xs)
		c.claim.Images[i] = kind.Of(m, c.images[i])
	}
	return c, xs
}

// image: of numbers in row i.
func (c known[P]) image(i int, xs numbers) numbers {
	sum := numbers{}
	for j, x := range xs {
		sum = sum.Plus(c.rows[i][j].Times(x))
	}
	return sum
}

// holds: is the image of these numbers in each row the image in its place?
func (c known[P]) holds(xs numbers) bool {
	for i, image := range c.images {
		if !c.image(i, xs).Same(image) {
			return false
		}
	}
	return true
}

// made: the first message to which answers are right, in row i.
func (c known[P]) made(i int, ch *big.Int, answers numbers) numbers {
	return c.image(i, answers).Plus(c.images[i].Times(new(big.Int).Neg(ch)))
}

// accepts: is the image of the answers in each row the first message's element and ch times the image?
func (c known[P]) accepts(first []numbers, ch *big.Int, answers numbers) bool {
	for i := range c.rows {
		if !c.image(i, answers).Same(first[i].Plus(c.images[i].Times(ch))) {
			return false
		}
	}
	return true
}

// are: elements must stand for these numbers.
func (c known[P]) are(t *testing.T, what string, got []P, want func(i int) numbers) {
	t.Helper()
	if len(got) != len(c.rows) {
		t.Fatalf("%s, over %s: %d elements for %d rows", what, c.kind.Name, len(got), len(c.rows))
	}
	for i, p := range got {
		if !c.kind.Is(p, want(i)) {
			t.Errorf("%s, over %s: element %d is %v, want %v", what, c.kind.Name, i, c.kind.To(p), want(i))
		}
	}
}

// someNumbers: any, so many.
func someNumbers(m *sample.Maker, count int) numbers {
	list := make(numbers, count)
	for i := range list {
		list[i] = m.Number()
	}
	return list
}

// limbs: scalars that stand for numbers, by any of their limbs.
func limbs(m *sample.Maker, ns numbers) []scalar.Scalar {
	list := make([]scalar.Scalar, len(ns))
	for i, n := range ns {
		list[i] = m.Limbs(n)
	}
	return list
}

// answer: nonces + ch xs.
func answer(nonces, xs numbers, ch *big.Int) numbers { return nonces.Plus(xs.Times(ch)) }

// other: the same numbers but for one place, where 1 is added.
func other(ns numbers, place int) numbers {
	list := slices.Clone(ns)
	list[place] = sample.Mod(new(big.Int).Add(list[place], big.NewInt(1)))
	return list
}

// told: scalars must be these numbers, by their least limbs.
func told(t *testing.T, what string, got []scalar.Scalar, want numbers) {
	t.Helper()
	if len(got) != len(want) {
		t.Fatalf("%s: %d scalars, want %d", what, len(got), len(want))
	}
	for i, k := range got {
		if k != sample.Scalar(want[i]) {
			t.Errorf("%s: place %d is %v, want %v", what, i, k, sample.Scalar(want[i]))
		}
	}
}

// errno: an error must be this one.
func errno(t *testing.T, what string, got, want api.Errno) {
	t.Helper()
	if got != want {
		t.Errorf("%s: error %d, want %d", what, got, want)
	}
}

// noProof: what comes beside an error must be zero.
func noProof(t *testing.T, what string, p sigma.Proof, got, want api.Errno) {
	t.Helper()
	errno(t, what, got, want)
	if p.C != (scalar.Scalar{}) || len(p.Answers) != 0 {
		t.Errorf("%s: %v beside an error", what, p)
	}
}

// noEither: what comes beside an error must be zero.
func noEither(t *testing.T, what string, p sigma.Either, got, want api.Errno) {
	t.Helper()
	errno(t, what, got, want)
	if p.C1 != (scalar.Scalar{}) || p.C2 != (scalar.Scalar{}) || len(p.A1) != 0 || len(p.A2) != 0 {
		t.Errorf("%s: %v beside an error", what, p)
	}
}

// noList: what comes beside an error must be empty.
func noList[T any](t *testing.T, what string, list []T, got, want api.Errno) {
	t.Helper()
	errno(t, what, got, want)
	if len(list) != 0 {
		t.Errorf("%s: %v beside an error", what, list)
	}
}

// fixed: an Oracle of the test's own: every Draw answers the same, with any limbs and any error; it keeps what it is told, and writes into it.
type fixed struct {
	ch    scalar.Scalar
	e     api.Errno
	heard []transcript.Said
}

func (o *fixed) Absorb(label string, parts ...[]byte) {
	said := transcript.Said{Label: label}
	for _, part := range parts {
		said.Parts = append(said.Parts, slices.Clone(part))
	}
	o.heard = append(o.heard, said)
	for i, part := range parts {
		whole := part[:cap(part)]
		for j := range whole {
			whole[j] ^= 0xff
		}
		parts[i] = nil
	}
}

func (o *fixed) Draw(label string) (scalar.Scalar, api.Errno) {
	o.heard = append(o.heard, transcript.Said{Draw: true, Label: label})
	return o.ch, o.e
}

// le64: a number as 8 bytes.
func le64(n int) []byte { return binary.LittleEndian.AppendUint64(nil, uint64(n)) }

// saidElements: the bytes of elements that stand for these numbers, a part each.
func (c known[P]) saidElements(ns ...numbers) [][]byte {
	var parts [][]byte
	for _, n := range ns {
		b := c.kind.Of(new(sample.Maker), n).Encode()
		parts = append(parts, b[:])
	}
	return parts
}

// saidClaim: what is said of a claim.
func (c known[P]) saidClaim() transcript.Said {
	parts := [][]byte{le64(len(c.rows)), le64(len(c.rows[0]))}
	for _, row := range c.rows {
		parts = append(parts, c.saidElements(row...)...)
	}
	return transcript.Said{Label: "claim", Parts: append(parts, c.saidElements(c.images...)...)}
}

// saidFirst: what is said of a first message with these numbers in each row.
func (c known[P]) saidFirst(of func(i int) numbers) transcript.Said {
	said := transcript.Said{Label: "first"}
	for i := range c.rows {
		said.Parts = append(said.Parts, c.saidElements(of(i))...)
	}
	return said
}

// drawn: a Draw of the challenge.
func drawn() transcript.Said { return transcript.Said{Draw: true, Label: "c"} }

// heard: all that was said must be this.
func heard(t *testing.T, what string, got []transcript.Said, want ...transcript.Said) {
	t.Helper()
	same := slices.EqualFunc(got, want, func(a, b transcript.Said) bool {
		return a.Draw == b.Draw && a.Label == b.Label && slices.EqualFunc(a.Parts, b.Parts, slices.Equal[[]byte])
	})
	if !same {
		t.Errorf("%s: was said %v, want %v", what, got, want)
	}
}

// shapes: of claims: rows and width.
func shapes() [][2]int {
	return [][2]int{{1, 1}, {1, 2}, {2, 1}, {1, 5}, {4, 1}, {2, 3}, {3, 2}, {3, 3}}
}

// fewShapes: for groups whose sums cost more.
func fewShapes() [][2]int { return [][2]int{{1, 1}, {2, 3}} }
