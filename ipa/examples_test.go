package ipa_test

// The examples of the chapter, by their numbers.

import (
	"math/big"
	"testing"

	"veil/api"
	"veil/ipa"
	"veil/msm"
	"veil/sample"
	"veil/scalar"
	"veil/transcript"
)

func TestExample1Image(t *testing.T) {
	p, e := ipa.Image(line(5), lines(1, 2), lines(3, 4), ints(1, 1), ints(2, 0))
	if p != line(19) || e != api.OK {
		t.Errorf("Image = %v, %d", p, e)
	}
}

func TestExample2SizeOne(t *testing.T) {
	o := transcript.Given()
	x, e := ipa.Prove(line(5), lines(1), lines(3), ints(2), ints(7), o)
	errno(t, "Prove", e, api.OK)
	isArgued(t, "Prove", sample.Lines(), x, argued{a: big.NewInt(2), b: big.NewInt(7)})
	heard(t, "Prove", o.Heard(), transcript.Said{Label: "ipa", Parts: [][]byte{{1, 0, 0, 0, 0, 0, 0, 0}}})
	p, _ := ipa.Image(line(5), lines(1), lines(3), ints(2), ints(7))
	if p != line(93) {
		t.Errorf("Image = %v", p)
	}
	errno(t, "Verify", ipa.Verify(ipa.Statement[msm.Line]{P: p, Q: line(5), G: lines(1), H: lines(3)}, x, nil), api.OK)
}

func TestExample3OneRound(t *testing.T) {
	q, g, h, a, b := line(5), lines(1, 2), lines(3, 4), ints(1, 0), ints(0, 1)
	x, e := ipa.Prove(q, g, h, a, b, transcript.Given(scalar.Int(2)))
	errno(t, "Prove", e, api.OK)
	isArgued(t, "Prove", sample.Lines(), x, argued{l: []numbers{sample.Small(10)}, r: []numbers{{}}, a: big.NewInt(2), b: big.NewInt(2)})
	s := ipa.Statement[msm.Line]{P: line(5), Q: q, G: g, H: h}
	var last ipa.Statement[msm.Line]
	for now := range ipa.Rounds(s, x, ints(2)) {
		last = now
	}
	half := inverse(big.NewInt(2))
	isStated(t, "folded", sample.Lines(), last, stated{
		p: sample.Small(45), q: sample.Small(5), g: []numbers{{plus(half, big.NewInt(4))}}, h: []numbers{sample.Small(8)},
	})
	errno(t, "Verify", ipa.Verify(s, x, ints(2)), api.OK)
}

func TestExample4Weights(t *testing.T) {
	half := inverse(big.NewInt(2))
	w, e := ipa.Weights(ints(2))
	errno(t, "Weights([2])", e, api.OK)
	told(t, "Weights([2])", w, numbers{half, big.NewInt(2)})
	u, v := big.NewInt(3), big.NewInt(5)
	w, e = ipa.Weights(ints(3, 5))
	errno(t, "Weights([u v])", e, api.OK)
	told(t, "Weights([u v])", w, numbers{inverse(times(u, v)), times(v, inverse(u)), times(u, inverse(v)), times(u, v)})
	w, e = ipa.Weights(nil)
	errno(t, "Weights([])", e, api.OK)
	told(t, "Weights([])", w, sample.Small(1))
	w, e = ipa.Weights(ints(0))
	noList(t, "Weights([0])", w, e, api.ErrZero)
}

func TestExample5Errors(t *testing.T) {
	s := ipa.Statement[msm.Line]{P: line(5), Q: line(5), G: lines(1, 2), H: lines(3, 4)}
	errno(t, "Verify", ipa.Verify(s, ipa.Argument[msm.Line]{L: lines(10), R: lines(0)}, nil), api.ErrLength)
	var four []ipa.Branch
	for _, u := range []scalar.Scalar{scalar.Int(1), scalar.Int(2), scalar.Int(3), scalar.Int(1).Neg()} {
		four = append(four, ipa.Branch{U: u, A: ints(1), B: ints(1)})
	}
	_, _, _, e := ipa.Join(s, line(1), line(2), four)
	errno(t, "Join", e, api.ErrSame)
}
