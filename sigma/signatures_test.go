package sigma_test

import (
	"math/big"
	"slices"
	"testing"

	"veil/api"
	"veil/gens"
	"veil/group"
	"veil/msm"
	"veil/sample"
	"veil/scalar"
	"veil/sigma"
	"veil/transcript"
)

// signedBy: the challenge of a signature, by the chapter's words: all that its transcript hears.
func signedBy[P msm.Group[P]](message []byte, base, public, first P) scalar.Scalar {
	o := transcript.New("veil signature")
	o.Absorb("message", message)
	a, b, c := base.Encode(), public.Encode(), first.Encode()
	o.Absorb("claim", le64(1), le64(1), a[:], b[:])
	o.Absorb("first", c[:])
	ch, _ := o.Draw("c")
	return ch
}

// messages: of several lengths, those that look alike among them.
func messages(m *sample.Maker) [][]byte {
	return [][]byte{nil, {0}, {0, 0}, []byte("message"), []byte("veil signature"), m.Bytes(64), m.Bytes(1000)}
}

func signOver[P msm.Group[P]](t *testing.T, m *sample.Maker, base P, keys int) {
	t.Helper()
	for i := range keys {
		key, nonce := m.Number(), m.Number()
		for j, message := range messages(m) {
			if i > 0 && j > 1 {
				break
			}
			p, e := sigma.Sign(base, m.Limbs(key), m.Limbs(nonce), message)
			errno(t, "Sign", e, api.OK)
			public := base.Times(sample.Scalar(key))
			ch := signedBy(message, base, public, base.Times(sample.Scalar(nonce)))
			if p.C != ch {
				t.Errorf("Sign: the challenge is %v, want %v", p.C, ch)
			}
			told(t, "Sign", p.Answers, answer(numbers{nonce}, numbers{key}, sample.NumberOf(ch)))
			errno(t, "Signed", sigma.Signed(base, public, message, p), api.OK)
			wrongSignatures(t, base, public, message, p)
		}
	}
}

// wrongSignatures: nothing about a signature can be changed. (The base is not neutral.)
func wrongSignatures[P msm.Group[P]](t *testing.T, base, public P, message []byte, p sigma.Proof) {
	t.Helper()
	one := scalar.Int(1)
	signed := func(what string, base, public P, message []byte, p sigma.Proof, want api.Errno) {
		t.Helper()
		errno(t, "Signed with "+what, sigma.Signed(base, public, message, p), want)
	}
	signed("a longer message", base, public, append(slices.Clone(message), 0), p, api.ErrRejects)
	if len(message) > 0 {
		signed("a shorter message", base, public, message[1:], p, api.ErrRejects)
		signed("no message", base, public, nil, p, api.ErrRejects)
	}
	signed("another key", base, public.Add(base), message, p, api.ErrRejects)
	signed("another base", base.Double(), public, message, p, api.ErrRejects)
	signed("another challenge", base, public, message, sigma.Proof{C: p.C.Add(one), Answers: p.Answers}, api.ErrRejects)
	signed("another answer", base, public, message, sigma.Proof{C: p.C, Answers: []scalar.Scalar{p.Answers[0].Add(one)}}, api.ErrRejects)
	signed("no answer", base, public, message, sigma.Proof{C: p.C}, api.ErrLength)
	signed("two answers", base, public, message, sigma.Proof{C: p.C, Answers: []scalar.Scalar{p.Answers[0], {}}}, api.ErrLength)
	signed("nothing", base, public, message, sigma.Proof{Answers: []scalar.Scalar{{}}}, api.ErrRejects)
}

func TestP1108Signatures(t *testing.T) {
	m := sample.Maker(1108)
	blind, _ := gens.Point(api.GenBlind, 0)
	signOver(t, &m, group.Base(), 2)
	signOver(t, &m, blind, 2)
	signOver(t, &m, msm.Line{K: scalar.Int(1)}, 8)
	signOver(t, &m, msm.Line{K: m.Limbs(big.NewInt(77))}, 8)
	signOver(t, &m, msm.Free{K: ints(0, 3, 0, 4)}, 4)
	signOver(t, &m, sample.Boxes().Of(&m, sample.Small(5)), 4)
}

// A signature is what Prove and Verify make of the claim, over a transcript that was told the message.
func TestP1108AsProveAndVerify(t *testing.T) {
	m := sample.Maker(11080)
	base := group.Base()
	for _, message := range messages(&m)[:4] {
		key, nonce := m.Limbs(m.Number()), m.Limbs(m.Number())
		told := func() transcript.Oracle {
			o := transcript.New("veil signature")
			o.Absorb("message", message)
			return o
		}
		c := sigma.Key(base, base.Times(key))
		want, _ := sigma.Prove(c, []scalar.Scalar{key}, []scalar.Scalar{nonce}, told())
		got, e := sigma.Sign(base, key, nonce, message)
		if e != api.OK || got.C != want.C || !slices.Equal(got.Answers, want.Answers) {
			t.Errorf("Sign: %v, %d, want %v", got, e, want)
		}
		errno(t, "Verify of a signature", sigma.Verify(c, got, told()), api.OK)
	}
}

// A nil message and an empty one are the same.
func TestP1108NilAndEmptyMessages(t *testing.T) {
	base := line(1)
	one, _ := sigma.Sign(base, scalar.Int(5), scalar.Int(3), nil)
	two, _ := sigma.Sign(base, scalar.Int(5), scalar.Int(3), []byte{})
	if one.C != two.C || !slices.Equal(one.Answers, two.Answers) {
		t.Errorf("%v, %v", one, two)
	}
	errno(t, "Signed", sigma.Signed(base, line(5), []byte{}, one), api.OK)
	errno(t, "Signed", sigma.Signed(base, line(5), nil, two), api.OK)
}

// The neutral base: every key is neutral, and every answer fits.
func TestP1108NeutralBase(t *testing.T) {
	p, e := sigma.Sign(msm.Line{}, scalar.Int(5), scalar.Int(3), []byte("text"))
	errno(t, "Sign", e, api.OK)
	errno(t, "Signed", sigma.Signed(msm.Line{}, msm.Line{}, []byte("text"), p), api.OK)
	errno(t, "Signed by another answer", sigma.Signed(msm.Line{}, msm.Line{}, []byte("text"), sigma.Proof{C: p.C, Answers: ints(9)}), api.OK)
}
