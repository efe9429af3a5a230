package sigma_test

// The examples of the chapter, by their numbers.

import (
	"testing"

	"veil/api"
	"veil/gens"
	"veil/group"
	"veil/msm"
	"veil/sample"
	"veil/scalar"
	"veil/sigma"
	"veil/transcript"
)

func line(k uint64) msm.Line { return msm.Line{K: scalar.Int(k)} }

func ints(ks ...uint64) []scalar.Scalar {
	list := make([]scalar.Scalar, len(ks))
	for i, k := range ks {
		list[i] = scalar.Int(k)
	}
	return list
}

func TestExample1Moves(t *testing.T) {
	c := sigma.Key(line(1), line(5))
	errno(t, "Holds [5]", sigma.Holds(c, ints(5)), api.OK)
	errno(t, "Holds [6]", sigma.Holds(c, ints(6)), api.ErrWitness)
	errno(t, "Holds [5, 0]", sigma.Holds(c, ints(5, 0)), api.ErrLength)
	first, e := sigma.First(c, ints(3))
	if e != api.OK || len(first) != 1 || first[0] != line(3) {
		t.Errorf("First = %v, %d", first, e)
	}
	answers, e := sigma.Answer(ints(3), ints(5), scalar.Int(2))
	errno(t, "Answer", e, api.OK)
	told(t, "Answer", answers, sample.Small(13))
	errno(t, "Accepts", sigma.Accepts(c, []msm.Line{line(3)}, scalar.Int(2), ints(13)), api.OK)
	xs, e := sigma.Extract(c, []msm.Line{line(3)}, scalar.Int(2), ints(13), scalar.Int(4), ints(23))
	errno(t, "Extract", e, api.OK)
	told(t, "Extract", xs, sample.Small(5))
	xs, e = sigma.Extract(c, []msm.Line{line(3)}, scalar.Int(2), ints(13), scalar.Int(2), ints(23))
	noList(t, "Extract of one challenge", xs, e, api.ErrSame)
}

func TestExample2Simulate(t *testing.T) {
	first, e := sigma.Simulate(sigma.Key(line(1), line(5)), scalar.Int(2), ints(13))
	if e != api.OK || len(first) != 1 || first[0] != line(3) {
		t.Errorf("Simulate = %v, %d", first, e)
	}
}

func TestExample3ClaimsThatDoNotStand(t *testing.T) {
	for i, c := range []sigma.Claim[msm.Line]{
		{},
		{Rows: [][]msm.Line{{}}, Images: []msm.Line{line(1)}},
		{Rows: [][]msm.Line{{line(1)}, {line(1)}}, Images: []msm.Line{line(1)}},
		{Rows: [][]msm.Line{{line(1)}, {line(1), line(2)}}, Images: []msm.Line{line(1), line(1)}},
	} {
		for _, nonces := range [][]scalar.Scalar{ints(1), ints(1, 2), ints(1, 2, 3, 4, 5), nil} {
			first, e := sigma.First(c, nonces)
			noList(t, "First", first, e, api.ErrLength)
			p, e := sigma.Prove(c, ints(1), nonces, transcript.Given(scalar.Int(7)))
			noProof(t, "Prove", p, e, api.ErrLength)
			p, e = sigma.Prove(c, ints(1), nonces, nil)
			noProof(t, "Prove without an Oracle", p, e, api.ErrArg)
		}
		if t.Failed() {
			t.Fatalf("claim %d", i)
		}
	}
}

func TestExample4Prove(t *testing.T) {
	c := sigma.Key(line(1), line(5))
	o := transcript.Given(scalar.Int(7))
	p, e := sigma.Prove(c, ints(5), ints(3), o)
	errno(t, "Prove", e, api.OK)
	told(t, "C", []scalar.Scalar{p.C}, sample.Small(7))
	told(t, "Answers", p.Answers, sample.Small(38))
	one, five, three := scalar.Int(1).Encode(), scalar.Int(5).Encode(), scalar.Int(3).Encode()
	heard(t, "Prove", o.Heard(),
		transcript.Said{Label: "claim", Parts: [][]byte{le64(1), le64(1), one[:], five[:]}},
		transcript.Said{Label: "first", Parts: [][]byte{three[:]}},
		drawn())

	p, e = sigma.Prove(c, ints(5), ints(3), transcript.Given(scalar.Int(0)))
	noProof(t, "Prove over Given(0)", p, e, api.ErrZero)
	p, e = sigma.Prove(c, ints(5), ints(3), transcript.Given())
	noProof(t, "Prove over Given()", p, e, api.ErrShort)
	o = transcript.Given(scalar.Int(7))
	p, e = sigma.Prove(c, ints(6), ints(3), o)
	noProof(t, "Prove with [6]", p, e, api.ErrWitness)
	heard(t, "Prove with [6]", o.Heard())
}

func TestExample5Verify(t *testing.T) {
	c, p := sigma.Key(line(1), line(5)), sigma.Proof{C: scalar.Int(7), Answers: ints(38)}
	errno(t, "Verify over Given(7)", sigma.Verify(c, p, transcript.Given(scalar.Int(7))), api.OK)
	errno(t, "Verify over Given(8)", sigma.Verify(c, p, transcript.Given(scalar.Int(8))), api.ErrRejects)
}

func TestExample6Either(t *testing.T) {
	a, b := sigma.Key(line(1), line(5)), sigma.Key(line(1), line(9))
	o := transcript.Given(scalar.Int(10))
	p, e := sigma.ProveEither(a, b, 2, ints(9), ints(4), scalar.Int(3), ints(20), o)
	errno(t, "ProveEither", e, api.OK)
	told(t, "C1, C2", []scalar.Scalar{p.C1, p.C2}, sample.Small(3, 7))
	told(t, "A1", p.A1, sample.Small(20))
	told(t, "A2", p.A2, sample.Small(67))
	said := o.Heard()
	five, four := scalar.Int(5).Encode(), scalar.Int(4).Encode()
	if len(said) != 5 {
		t.Fatalf("was said: %v", said)
	}
	heard(t, "ProveEither", said[2:4],
		transcript.Said{Label: "first", Parts: [][]byte{five[:]}},
		transcript.Said{Label: "first", Parts: [][]byte{four[:]}})
	errno(t, "VerifyEither", sigma.VerifyEither(a, b, p, transcript.Given(scalar.Int(10))), api.OK)
}

func TestExample7Equal(t *testing.T) {
	s := gens.Set[msm.Line]{B: line(1), Blind: line(2)}
	errno(t, "Equal", sigma.Holds(sigma.Equal(s, line(7), line(11)), ints(3, 2, 4)), api.OK)
}

func TestExample8Signed(t *testing.T) {
	base, key := group.Base(), scalar.Int(5)
	p, e := sigma.Sign(base, key, scalar.Int(1234567), []byte("text"))
	errno(t, "Sign", e, api.OK)
	errno(t, "Signed", sigma.Signed(base, base.Times(key), []byte("text"), p), api.OK)
	errno(t, "Signed of another message", sigma.Signed(base, base.Times(key), []byte("test"), p), api.ErrRejects)
	p.Answers = append(p.Answers, scalar.Scalar{})
	errno(t, "Signed with one answer too many", sigma.Signed(base, base.Times(key), []byte("text"), p), api.ErrLength)
}
