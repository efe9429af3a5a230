package ideal_test

// P1603 and P1606: Match turned back, over Line.

import (
	"math/big"
	"testing"

	"veil/api"
	"veil/gens"
	"veil/ideal"
	"veil/msm"
	"veil/ranges"
	"veil/sample"
	"veil/scalar"
)

// blinded: any world over Line, Blind not 0.
func blinded(m *sample.Maker, p api.Params) world {
	w := anyWorld(m, sample.Lines(), p)
	w.blind = numbers{chance(m)}
	return w
}

// backOfMatch: a prover's tape must come back from what the document's words make of it, and from what Match makes of it.
func backOfMatch(t *testing.T, m *sample.Maker, w world, k secret, a asked) {
	t.Helper()
	g, vs := setOf(m, sample.Lines(), w), openingsOf(m, k)
	y, z, x := m.Limbs(a.y), m.Limbs(a.z), m.Limbs(a.x)
	b, e := ideal.Back(g, w.p, vs, y, z, x, madeTape(m, sample.Lines(), matched(w.said(k, a))))
	errno(t, "Back", e, api.OK)
	isSecret(t, "Back", b, k)

	made, e := ideal.Match(g, w.p, vs, y, z, x, proverTape(m, k))
	errno(t, "Match", e, api.OK)
	b, e = ideal.Back(g, w.p, vs, y, z, x, made)
	errno(t, "Back of Match", e, api.OK)
	isSecret(t, "Back of Match", b, k)
}

// matchOfBack: any tape of a simulator must come back: the prover with the tape of Back says just that.
func matchOfBack(t *testing.T, m *sample.Maker, w world, k secret, a asked, want made) {
	t.Helper()
	g, vs := setOf(m, sample.Lines(), w), openingsOf(m, k)
	y, z, x := m.Limbs(a.y), m.Limbs(a.z), m.Limbs(a.x)
	tape := madeTape(m, sample.Lines(), want)
	b, e := ideal.Back(g, w.p, vs, y, z, x, tape)
	errno(t, "Back", e, api.OK)
	made, e := ideal.Match(g, w.p, vs, y, z, x, b)
	errno(t, "Match of Back", e, api.OK)
	isMade(t, "Match of Back", sample.Lines(), made, want)

	v, view := proverView(t, g, w.p, vs, y, z, x, b)
	isMade(t, "the prover's view", sample.Lines(), ideal.Tape[msm.Line]{L: view.L, R: view.R, TauX: view.TauX, Mu: view.Mu, S: view.S, T2: view.T2}, want)
	got, e := ideal.Simulate(g, w.p, v, y, z, x, tape)
	errno(t, "Simulate", e, api.OK)
	if !sameViews(got, view) {
		t.Fatalf("%v: the simulator says %v, the prover %v", w.p, got, view)
	}
	k.alpha, k.rho, k.tau1, k.tau2 = sample.NumberOf(b.Alpha), sample.NumberOf(b.Rho), sample.NumberOf(b.Tau1), sample.NumberOf(b.Tau2)
	k.sL, k.sR = numbersOf(b.SL), numbersOf(b.SR)
	isSecret(t, "Back, by its least limbs", b, k)
	isMade(t, "the document's words of Back", sample.Lines(), made, matched(w.said(k, a)))
}

func numbersOf(list []scalar.Scalar) numbers {
	var ns numbers
	for _, k := range list {
		ns = append(ns, sample.NumberOf(k))
	}
	return ns
}

func TestP1603P1606BackOfMatch(t *testing.T) {
	t.Parallel()
	m := sample.Maker(1603)
	for range 4 {
		for _, p := range allParams(64) {
			backOfMatch(t, &m, blinded(&m, p), anySecret(&m, p), anyAsked(&m))
		}
	}
	for _, p := range allParams(api.MaxSize) {
		backOfMatch(t, &m, blinded(&m, p), anySecret(&m, p), anyAsked(&m))
	}
}

func TestP1606MatchOfBack(t *testing.T) {
	t.Parallel()
	m := sample.Maker(1606)
	for range 4 {
		for _, p := range allParams(64) {
			matchOfBack(t, &m, blinded(&m, p), anySecret(&m, p), anyAsked(&m), anyMade(&m, sample.Lines(), p))
		}
	}
	for _, p := range allParams(api.MaxSize) {
		matchOfBack(t, &m, blinded(&m, p), anySecret(&m, p), anyAsked(&m), anyMade(&m, sample.Lines(), p))
	}
}

// Values at both ends of their range, tapes of zeros on either side, and generators of which Blind alone is not 0.
func TestP1606Edges(t *testing.T) {
	t.Parallel()
	m := sample.Maker(16060)
	for _, p := range append(allParams(8), api.Params{Bits: 64, Count: 1}, api.Params{Bits: 64, Count: 2}) {
		nothing := made{l: someZeros(p.Size()), r: someZeros(p.Size()), taux: new(big.Int), mu: new(big.Int)}
		alone := world{p: p, blind: numbers{big.NewInt(1)}, g: make([]numbers, p.Size()), h: make([]numbers, p.Size())}
		for _, k := range edgeSecrets(&m, p) {
			for _, w := range []world{blinded(&m, p), plainWorld(&m, p), alone} {
				backOfMatch(t, &m, w, k, anyAsked(&m))
				matchOfBack(t, &m, w, k, anyAsked(&m), nothing)
				matchOfBack(t, &m, w, k, anyAsked(&m), anyMade(&m, sample.Lines(), p))
			}
		}
	}
}

// One-to-one: with any one scalar of a tape changed, what comes of it is another one, on both ways.
func TestP1606OneToOne(t *testing.T) {
	m := sample.Maker(16061)
	for _, p := range allParams(4) {
		w, k, a := blinded(&m, p), anySecret(&m, p), anyAsked(&m)
		g, vs := setOf(&m, sample.Lines(), w), openingsOf(&m, k)
		y, z, x := m.Limbs(a.y), m.Limbs(a.z), m.Limbs(a.x)
		tape := proverTape(&m, k)
		want, e := ideal.Match(g, p, vs, y, z, x, tape)
		errno(t, "Match", e, api.OK)
		for _, place := range scalarsOf(&tape) {
			was := *place
			*place = was.Add(m.Limbs(chance(&m)))
			got, e := ideal.Match(g, p, vs, y, z, x, tape)
			errno(t, "Match", e, api.OK)
			if sameMade(got, want) {
				t.Errorf("%v: two provers' tapes are turned into one", p)
			}
			*place = was
		}
		back, e := ideal.Back(g, p, vs, y, z, x, want)
		errno(t, "Back", e, api.OK)
		for _, place := range madeScalars(&want) {
			was := *place
			*place = was.Add(m.Limbs(chance(&m)))
			got, e := ideal.Back(g, p, vs, y, z, x, want)
			errno(t, "Back", e, api.OK)
			if sameTapes(got, back) {
				t.Errorf("%v: two simulators' tapes are turned into one", p)
			}
			*place = was
		}
	}
}

// scalarsOf: where the scalars of a prover's tape stand.
func scalarsOf(t *ranges.Tape) []*scalar.Scalar {
	list := []*scalar.Scalar{&t.Alpha, &t.Rho, &t.Tau1, &t.Tau2}
	for i := range t.SL {
		list = append(list, &t.SL[i], &t.SR[i])
	}
	return list
}

// madeScalars: where those of a simulator's tape stand.
func madeScalars(t *ideal.Tape[msm.Line]) []*scalar.Scalar {
	list := []*scalar.Scalar{&t.TauX, &t.Mu, &t.S.K, &t.T2.K}
	for i := range t.L {
		list = append(list, &t.L[i], &t.R[i])
	}
	return list
}

// Blind 0, by any limbs: there is no way back, or more than one.
func TestP1603Singular(t *testing.T) {
	m := sample.Maker(16030)
	for _, p := range append(allParams(8), api.Params{Bits: 64, Count: 1}) {
		w, k, a := anyWorld(&m, sample.Lines(), p), anySecret(&m, p), anyAsked(&m)
		w.blind = numbers{}
		for _, zero := range zeros() {
			g := setOf(&m, sample.Lines(), w)
			g.Blind = msm.Line{K: zero}
			// Where there would be a tape, too: for it is not the only one.
			for _, made := range []made{anyMade(&m, sample.Lines(), p), matched(w.said(k, a))} {
				b, e := ideal.Back(g, p, openingsOf(&m, k), m.Limbs(a.y), m.Limbs(a.z), m.Limbs(a.x), madeTape(&m, sample.Lines(), made))
				errno(t, "Back", e, api.ErrSingular)
				if !sameTapes(b, ranges.Tape{}) {
					t.Error("Back: a tape beside an error")
				}
			}
		}
	}
}

// Blind 0 hinders neither Match nor Simulate.
func TestP1602BlindIsZero(t *testing.T) {
	m := sample.Maker(16021)
	for _, p := range allParams(8) {
		w := anyWorld(&m, sample.Lines(), p)
		w.blind = numbers{}
		match(t, &m, sample.Lines(), w, anySecret(&m, p), anyAsked(&m))
	}
}

// Over Free there is no such way: S shows sL, whatever the tape says of it.
func TestOverBasisSShows(t *testing.T) {
	m := sample.Maker(16062)
	p := api.Params{Bits: 2, Count: 2}
	g, _ := gens.Basis(p.Size())
	k, a := anySecret(&m, p), anyAsked(&m)
	made, e := ideal.Match(g, p, openingsOf(&m, k), m.Limbs(a.y), m.Limbs(a.z), m.Limbs(a.x), proverTape(&m, k))
	errno(t, "Match", e, api.OK)
	shown := append(numbers{new(big.Int), k.rho, new(big.Int)}, append(append(numbers{}, k.sL...), k.sR...)...)
	are(t, "S", sample.Frees(), []msm.Free{made.S}, shown)
}
