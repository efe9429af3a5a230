package ranges_test

// P1309 and P1314: over the standard generators, in bytes.

import (
	"bytes"
	"math/big"
	"slices"
	"strings"
	"testing"

	"veil/api"
	"veil/gens"
	"veil/group"
	"veil/hash"
	"veil/ranges"
	"veil/sample"
	"veil/scalar"
	"veil/transcript"
	"veil/wire"
)

func TestP1309Commit(t *testing.T) {
	m := sample.Maker(1309)
	g, _ := gens.Standard(0)
	var vs []ranges.Opening
	var want []api.Bytes32
	for _, v := range []uint64{0, 1, 2, 255, 256, 1 << 32, 1 << 63, 1<<64 - 1, m.Next(), m.Next()} {
		n := m.Number()
		vs = append(vs, ranges.Opening{V: v, Blind: m.Limbs(n)})
		b := group.Base().Times(sample.Scalar(new(big.Int).SetUint64(v))).Add(g.Blind.Times(sample.Scalar(n)))
		want = append(want, b.Encode())
	}
	for count := range vs {
		if got := ranges.Commit(vs[:count]...); !slices.Equal(got, want[:count]) {
			t.Errorf("Commit of %d: %v", count, got)
		}
	}
	if got := ranges.Commit(); len(got) != 0 {
		t.Errorf("Commit of none: %v", got)
	}
	if got := ranges.Commit(ranges.Opening{}); len(got) != 1 || got[0] != (api.Bytes32{}) {
		t.Errorf("Commit of 0 and 0: %v", got)
	}
}

// made: openings of these Params and a stream.
func made(m *sample.Maker, p api.Params) ([]ranges.Opening, []byte) {
	return openingsOf(m, anySecret(m, p)), m.Bytes(64 * (2*p.Size() + 4))
}

// The bytes are those of Prove, with the tape of the stream, over the standard generators and a transcript.
func TestP1309ProveBytes(t *testing.T) {
	m := sample.Maker(13090)
	for _, label := range []string{"", "label", strings.Repeat("long", 99), "\x00\xff"} {
		for _, p := range []api.Params{{Bits: 1, Count: 1}, {Bits: 1, Count: 2}, {Bits: 8, Count: 1}, {Bits: 2, Count: 4}} {
			vs, stream := made(&m, p)
			v, proof, e := ranges.ProveBytes(p, label, vs, append(slices.Clip(stream), m.Bytes(70)...))
			errno(t, "ProveBytes", e, api.OK)

			g, _ := gens.Standard(p.Size())
			tape, e := ranges.ReadTape(p, stream)
			errno(t, "ReadTape", e, api.OK)
			elements, x, e := ranges.Prove(g, p, vs, tape, transcript.New(label))
			errno(t, "Prove", e, api.OK)
			want, e := wire.EncodeProof(x)
			errno(t, "EncodeProof", e, api.OK)
			if !bytes.Equal(proof, want) || len(proof) != p.Length() || !slices.Equal(v, ranges.Commit(vs...)) || len(v) != len(elements) {
				t.Errorf("%v: ProveBytes answers other bytes than Prove", p)
			}
			for j := range v {
				if v[j] != elements[j].Encode() {
					t.Errorf("%v: commitment %d is another one", p, j)
				}
			}
			errno(t, "Explain", ranges.Explain(p, label, v, proof), api.OK)
			if !ranges.VerifyBytes(p, label, v, proof) {
				t.Errorf("%v: the proof is not accepted", p)
			}
			if ranges.VerifyBytes(p, label+"x", v, proof) || ranges.Explain(p, label+"x", v, proof) != api.ErrFirst {
				t.Errorf("%v: accepted under another label", p)
			}
		}
	}
}

// A proof is the same bytes in every run, and with every version of this program.
func TestP1309KnownBytes(t *testing.T) {
	p := api.Params{Bits: 4, Count: 2}
	vs := []ranges.Opening{{V: 3, Blind: scalar.Int(7)}, {V: 5, Blind: scalar.Int(8)}}
	_, proof, e := ranges.ProveBytes(p, "known", vs, hash.Stretch([]byte("known"), 64*20))
	errno(t, "ProveBytes", e, api.OK)
	sum := hash.Sum(proof)
	if got := wire.Hex(sum[:8]); got != knownHash {
		t.Errorf("the proof's hash begins with %s", got)
	}
}

// knownHash: how its hash begins, by a program that has nothing of this one.
const knownHash = "11575310a57ea321"

func TestP1309ErrorsOfProveBytes(t *testing.T) {
	p := api.Params{Bits: 2, Count: 2}
	need := 64 * 12
	refused := func(what string, p api.Params, vs []ranges.Opening, length int, want api.Errno) {
		t.Helper()
		v, proof, e := ranges.ProveBytes(p, "label", vs, make([]byte, length))
		errno(t, what, e, want)
		if want != api.OK && (len(v) != 0 || len(proof) != 0) {
			t.Errorf("%s: bytes beside an error", what)
		}
	}
	good, great := make([]ranges.Opening, 2), []ranges.Opening{{V: 3}, {V: 4}}
	for _, bad := range noParams() {
		refused("Params", bad, good, need, api.ErrParams)
		refused("Params and all else", bad, append(great, great...), 0, api.ErrParams)
	}
	for _, count := range []int{0, 1, 3, 4} {
		refused("openings", p, make([]ranges.Opening, count), need, api.ErrLength)
		refused("openings and the stream", p, make([]ranges.Opening, count), need-1, api.ErrLength)
	}
	refused("openings and values", p, append(great, great...), need, api.ErrLength)
	for _, length := range []int{0, 1, need - 64, need - 1} {
		refused("the stream", p, good, length, api.ErrShort)
		refused("the stream and values", p, great, length, api.ErrShort)
	}
	refused("values", p, great, need, api.ErrValue)
	refused("values", p, []ranges.Opening{{V: 1<<64 - 1}, {V: 0}}, need, api.ErrValue)
	refused("nothing", p, good, need, api.OK)
	refused("the greatest values", p, []ranges.Opening{{V: 3}, {V: 3}}, need+1, api.OK)
}

// expected: what Explain must answer, by the calls of the layers below.
func expected(p api.Params, label string, v []api.Bytes32, proof []byte) api.Errno {
	if !p.Allowed() {
		return api.ErrParams
	}
	if len(v) != p.Count || len(proof) != p.Length() {
		return api.ErrLength
	}
	var list []group.Point
	for _, b := range v {
		c, e := group.Point{}.Decode(b)
		if e != api.OK {
			return e
		}
		list = append(list, c)
	}
	x, e := wire.DecodeProof[group.Point](proof)
	if e != api.OK {
		return e
	}
	g, _ := gens.Standard(p.Size())
	return ranges.Rounds(g, p, list, x, transcript.New(label))
}

// judged: both verifiers of bytes must answer as is expected; nothing here is met by one chance in 2^252.
func judged(t *testing.T, what string, p api.Params, v []api.Bytes32, proof []byte) api.Errno {
	t.Helper()
	want := expected(p, "label", v, proof)
	errno(t, "Explain: "+what, ranges.Explain(p, "label", v, proof), want)
	yes := ranges.VerifyBytes(p, "label", v, proof)
	if yes != (want == api.OK) {
		t.Errorf("VerifyBytes: %s: %v, and Explain answers %d", what, yes, want)
	}
	if yes {
		x, _ := wire.DecodeProof[group.Point](proof)
		if again, e := wire.EncodeProof(x); e != api.OK || !bytes.Equal(again, proof) || len(proof) != p.Length() {
			t.Errorf("VerifyBytes: %s: these bytes are not the encoding of what they decode to", what)
		}
	}
	return want
}

// Every part of a proof turned, at its first byte, its last, and in between.
func TestP1309P1314TurnedBytes(t *testing.T) {
	m := sample.Maker(13091)
	p := api.Params{Bits: 2, Count: 2}
	vs, stream := made(&m, p)
	v, proof, _ := ranges.ProveBytes(p, "label", vs, stream)
	errno(t, "the proof", judged(t, "the proof", p, v, proof), api.OK)
	met := map[api.Errno]int{}
	for part := range len(proof) / 32 {
		for _, place := range []int{0, 7, 31} {
			for _, by := range []byte{1, 2, 64, 128} {
				bad := bytes.Clone(proof)
				bad[32*part+place] ^= by
				met[judged(t, "a turned byte", p, v, bad)]++
			}
		}
	}
	for j := range v {
		for _, place := range []int{0, 7, 31} {
			for _, by := range []byte{1, 2, 64, 128} {
				bad := slices.Clone(v)
				bad[j][place] ^= by
				met[judged(t, "a turned byte of a commitment", p, bad, proof)]++
			}
		}
	}
	if met[api.OK] != 0 {
		t.Errorf("%d turned proofs are accepted", met[api.OK])
	}
	for _, e := range []api.Errno{api.ErrCanon, api.ErrPoint, api.ErrFirst} {
		if met[e] == 0 {
			t.Errorf("no turned proof was met with the error %d", e)
		}
	}
}

// Scalars and elements by other bytes than their own.
func TestP1314OtherBytes(t *testing.T) {
	m := sample.Maker(1314)
	p := api.Params{Bits: 2, Count: 1}
	vs, stream := made(&m, p)
	v, proof, _ := ranges.ProveBytes(p, "label", vs, stream)
	for part := range len(proof) / 32 {
		now := sample.Number(proof[32*part : 32*part+32])
		for _, more := range []*big.Int{sample.L(), sample.P(), sample.Power2(255)} {
			if sum := new(big.Int).Add(now, more); sum.BitLen() <= 256 {
				bad := bytes.Clone(proof)
				copy(bad[32*part:], sample.Bytes(sum, 32))
				if judged(t, "another number", p, v, bad) == api.OK {
					t.Errorf("part %d is taken by other bytes", part)
				}
			}
		}
	}
}

func TestP1309P1314Lengths(t *testing.T) {
	m := sample.Maker(13092)
	for _, p := range []api.Params{{Bits: 1, Count: 1}, {Bits: 2, Count: 2}} {
		vs, stream := made(&m, p)
		v, proof, _ := ranges.ProveBytes(p, "label", vs, stream)
		errno(t, "the proof", judged(t, "the proof", p, v, proof), api.OK)
		longer := append(slices.Clip(proof), make([]byte, 200)...)
		for length := range longer {
			if length != len(proof) {
				errno(t, "another length", judged(t, "another length", p, v, longer[:length]), api.ErrLength)
			}
		}
		for _, other := range [][]api.Bytes32{nil, v[:len(v)-1], append(slices.Clip(v), v[0]), append(slices.Clip(v), v...)} {
			errno(t, "other commitments", judged(t, "other commitments", p, other, proof), api.ErrLength)
		}
		for _, bad := range noParams() {
			errno(t, "Params", judged(t, "Params", bad, v, proof), api.ErrParams)
			errno(t, "Params and all else", judged(t, "Params", bad, []api.Bytes32{{1}}, nil), api.ErrParams)
		}
	}
}

// Commitments come ahead of the proof, in their order; lengths ahead of both.
func TestP1309OrderOfErrors(t *testing.T) {
	m := sample.Maker(13093)
	p := api.Params{Bits: 2, Count: 2}
	vs, stream := made(&m, p)
	v, proof, _ := ranges.ProveBytes(p, "label", vs, stream)
	canon, point := api.Bytes32{1}, noElement(t)
	full := bytes.Repeat([]byte{255}, 32)
	bad := bytes.Clone(proof)
	copy(bad[32*8:], full) // R_1: not canonical
	mu := bytes.Clone(proof)
	copy(mu[32*5:], full)
	copy(mu[32*1:], point[:])
	for _, c := range []struct {
		v     []api.Bytes32
		proof []byte
		want  api.Errno
	}{
		{[]api.Bytes32{canon, point}, proof, api.ErrCanon},
		{[]api.Bytes32{point, canon}, proof, api.ErrPoint},
		{[]api.Bytes32{v[0], point}, bad, api.ErrPoint},
		{[]api.Bytes32{v[0], canon}, mu, api.ErrCanon},
		{v, bad, api.ErrCanon},
		{v, mu, api.ErrPoint}, // S comes ahead of mu
		{[]api.Bytes32{canon, point}, proof[1:], api.ErrLength},
		{[]api.Bytes32{canon, point, point}, bad, api.ErrLength},
		{[]api.Bytes32{v[1], v[0]}, proof, api.ErrFirst},
	} {
		errno(t, "Explain", judged(t, "faults", p, c.v, c.proof), c.want)
	}
}

// noElement: bytes of a number below p that are not negative and yet no element.
func noElement(t *testing.T) api.Bytes32 {
	t.Helper()
	for n := byte(2); n < 200; n += 2 {
		if _, e := (group.Point{}).Decode(api.Bytes32{n}); e == api.ErrPoint {
			return api.Bytes32{n}
		}
	}
	t.Fatal("there is no such number")
	return api.Bytes32{}
}

// The greatest size, 64 bits, one bit, and the same bytes for other Params of the same length.
func TestP1309GreatAndSmall(t *testing.T) {
	t.Parallel()
	m := sample.Maker(13094)
	for _, p := range []api.Params{{Bits: 64, Count: 16}, {Bits: 64, Count: 1}, {Bits: 1, Count: 1}} {
		vs, stream := made(&m, p)
		vs[0].V = uint64(1)<<p.Bits - 1
		v, proof, e := ranges.ProveBytes(p, "label", vs, stream)
		errno(t, "ProveBytes", e, api.OK)
		errno(t, "the proof", ranges.Explain(p, "label", v, proof), api.OK)
		if !ranges.VerifyBytes(p, "label", v, proof) {
			t.Errorf("%v: the proof is not accepted", p)
		}
		proof[len(proof)-32] ^= 1
		errno(t, "another b", ranges.Explain(p, "label", v, proof), api.ErrSecond)
		if ranges.VerifyBytes(p, "label", v, proof) {
			t.Errorf("%v: another b is accepted", p)
		}
	}
	vs, stream := made(&m, api.Params{Bits: 2, Count: 2})
	v, proof, _ := ranges.ProveBytes(api.Params{Bits: 2, Count: 2}, "label", vs, stream)
	errno(t, "other Params", judged(t, "other Params", api.Params{Bits: 4, Count: 1}, v[:1], proof), api.ErrFirst)
	errno(t, "other Params", judged(t, "other Params", api.Params{Bits: 1, Count: 4}, append(slices.Clip(v), v...), proof), api.ErrFirst)
}

// What nobody made: nothing but zeros is a proof's bytes, and is not accepted.
func TestP1309ZeroBytes(t *testing.T) {
	for _, p := range allParams(8) {
		e := judged(t, "zeros", p, make([]api.Bytes32, p.Count), make([]byte, p.Length()))
		errno(t, "zeros", e, api.ErrFirst)
	}
}
