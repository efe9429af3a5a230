package sigma

import (
	"veil/api"
	"veil/msm"
	"veil/scalar"
	"veil/transcript"
)

// Proof: the challenge and the answers.
type Proof struct {
	C       scalar.Scalar
	Answers []scalar.Scalar
}

// Either: a proof that one of two claims holds.
type Either struct {
	C1, C2 scalar.Scalar
	A1, A2 []scalar.Scalar
}

// Prove: without a verifier: the challenge is the oracle's.
func Prove[P msm.Group[P]](c Claim[P], xs, nonces []scalar.Scalar, o transcript.Oracle) (Proof, api.Errno) {
	return prove[P](single[P]{c}, xs, nonces, o)
}

// Verify: is the proof right?
func Verify[P msm.Group[P]](c Claim[P], p Proof, o transcript.Oracle) api.Errno {
	return verify[P](single[P]{c}, o, p)
}

// ProveEither: of the claim that is known (1 or 2); the other one's challenge and answers are made up.
func ProveEither[P msm.Group[P]](a, b Claim[P], known int, xs, nonces []scalar.Scalar, ch scalar.Scalar, made []scalar.Scalar, o transcript.Oracle) (Either, api.Errno) {
	about := pair[P]{single[P]{a}, single[P]{b}}
	mine, ok := claimOf[P](about, known)
	if o == nil || !ok {
		return Either{}, api.ErrArg
	}
	other, _ := claimOf[P](about, 3-known)
	if !mine.fits(xs, nonces) || !other.fits(made) {
		return Either{}, api.ErrLength
	}
	if e := Holds(mine, xs); e != api.OK {
		return Either{}, e
	}

	ofA, ofB := inOrder(known, move[P]{claim: mine, list: nonces}.first, move[P]{claim: other, ch: ch, list: made}.simulate)
	t, e := ask[P](o, about, ofA, ofB)
	if e != api.OK {
		return Either{}, e
	}
	one, two := inOrder(known, answered(nonces, xs, t.Sub(ch)), Proof{ch.Least(), least(made)})
	return Either{C1: one.C, C2: two.C, A1: one.Answers, A2: two.Answers}, api.OK
}

// VerifyEither: is it right?
func VerifyEither[P msm.Group[P]](a, b Claim[P], p Either, o transcript.Oracle) api.Errno {
	return verify[P](pair[P]{single[P]{a}, single[P]{b}}, o, Proof{p.C1, p.A1}, Proof{p.C2, p.A2})
}

// Sign: a message, with a key and a nonce.
func Sign[P msm.Group[P]](base P, key, nonce scalar.Scalar, message []byte) (Proof, api.Errno) {
	about := signatureOf(base, base.Times(key), message)
	return prove[P](about, []scalar.Scalar{key}, []scalar.Scalar{nonce}, transcript.New(signatureLabel))
}

// Signed: is it that key's signature of the message?
func Signed[P msm.Group[P]](base, public P, message []byte, p Proof) api.Errno {
	return verify[P](signatureOf(base, public, message), transcript.New(signatureLabel), p)
}

// signatureLabel: of a signature's transcript.
const signatureLabel = "veil signature"

// signatureOf: what a public key's signature of a message is about.
func signatureOf[P msm.Group[P]](base, public P, message []byte) signature[P] {
	return signature[P]{key: single[P]{Key(base, public)}, message: message}
}

// prove: a subject's one claim.
func prove[P msm.Group[P]](about subject[P], xs, nonces []scalar.Scalar, o transcript.Oracle) (Proof, api.Errno) {
	if o == nil {
		return Proof{}, api.ErrArg
	}
	c, _ := claimOf(about, 1)
	if !c.fits(xs, nonces) {
		return Proof{}, api.ErrLength
	}
	if e := Holds(c, xs); e != api.OK {
		return Proof{}, e
	}
	ch, e := ask(o, about, move[P]{claim: c, list: nonces}.first)
	if e != api.OK {
		return Proof{}, e
	}
	return answered(nonces, xs, ch), api.OK
}

// verify: are these, one for each of a subject's claims, a proof? Their challenges must add up to the Oracle's, so that all but one may have been made up.
func verify[P msm.Group[P]](about subject[P], o transcript.Oracle, proofs ...Proof) api.Errno {
	if o == nil {
		return api.ErrArg
	}
	var sum scalar.Scalar
	var firsts []func() []P
	for i, p := range proofs {
		c, _ := claimOf(about, i+1)
		if !c.fits(p.Answers) {
			return api.ErrLength
		}
		sum = sum.Add(p.C)
		firsts = append(firsts, move[P]{claim: c, ch: p.C, list: p.Answers}.simulate)
	}
	t, e := ask(o, about, firsts...)
	if e != api.OK {
		return e
	}
	if !t.Same(sum) {
		return api.ErrRejects
	}
	return api.OK
}

// inOrder: what is the known claim's and what is the other one's, the first claim's first.
func inOrder[T any](known int, mine, other T) (T, T) {
	if known == 2 {
		return other, mine
	}
	return mine, other
}

// answered: a challenge and the answers to it.
func answered(nonces, xs []scalar.Scalar, ch scalar.Scalar) Proof {
	answers, _ := Answer(nonces, xs, ch)
	return Proof{ch, answers}
}

// least: the same scalars, by their least limbs.
func least(list []scalar.Scalar) []scalar.Scalar {
	told := make([]scalar.Scalar, len(list))
	for i, k := range list {
		told[i] = k.Least()
	}
	return told
}
