package arith_test

// P2109: over the standard generators, in bytes.

import (
	"bytes"
	"slices"
	"strings"
	"testing"

	"veil/api"
	"veil/arith"
	"veil/circuit"
	"veil/gens"
	"veil/group"
	"veil/hash"
	"veil/sample"
	"veil/scalar"
	"veil/transcript"
	"veil/wire"
)

// made: all that ProveBytes is handed.
type made struct {
	s      *circuit.System
	a      circuit.Assignment
	blinds []scalar.Scalar
	stream []byte
}

func makeUp(m *sample.Maker, h shape) made {
	k := anySecret(m, h)
	s := systemOf(m, anySystem(m, h, k))
	return made{s, assignmentOf(m, k), limbs(m, k.blinds), m.Bytes(64 * (2*arith.Size(s) + 8))}
}

// The bytes are those of Prove, with the tape of the stream, over the standard generators and a transcript.
func TestP2109ProveBytes(t *testing.T) {
	t.Parallel()
	m := sample.Maker(2109)
	for _, label := range []string{"", "label", strings.Repeat("long", 99), "\x00\xff"} {
		for _, h := range []shape{{0, 0, 0}, {0, 1, 1}, {1, 1, 1}, {2, 3, 2}, {1, 5, 6}} {
			k := makeUp(&m, h)
			v, proof, e := arith.ProveBytes(k.s, label, k.a, k.blinds, append(slices.Clip(k.stream), m.Bytes(70)...))
			errno(t, "ProveBytes", e, api.OK)

			g, _ := gens.Standard(arith.Size(k.s))
			tape, e := arith.ReadTape(k.s, k.stream)
			errno(t, "ReadTape", e, api.OK)
			elements, x, e := arith.Prove(g, k.s, k.a, k.blinds, tape, transcript.New(label))
			errno(t, "Prove", e, api.OK)
			want, e := arith.EncodeProof(x)
			errno(t, "EncodeProof", e, api.OK)
			if !bytes.Equal(proof, want) || len(v) != h.values {
				t.Errorf("%v: ProveBytes answers other bytes than Prove", h)
			}
			for j := range v {
				if v[j] != elements[j].Encode() || v[j] != gens.Commit(g, k.a.V[j], k.blinds[j]).Encode() {
					t.Errorf("%v: commitment %d is another one", h, j)
				}
			}
			errno(t, "Explain", arith.Explain(k.s, label, v, proof), api.OK)
			if !arith.VerifyBytes(k.s, label, v, proof) {
				t.Errorf("%v: the proof is not accepted", h)
			}
			e = arith.Explain(k.s, label+"x", v, proof)
			if arith.VerifyBytes(k.s, label+"x", v, proof) || e != api.ErrFirst && e != api.ErrSecond {
				t.Errorf("%v: under another label: %d", h, e)
			}
		}
	}
}

// knownHash: how the hash of a proof begins, by a program that has nothing of this one.
const knownHash = "df50d7e7bfd280e7"

// A proof is the same bytes in every run, and with every version of this program.
func TestP2109KnownBytes(t *testing.T) {
	s, _ := circuit.New(1)
	v := circuit.Of(circuit.Wire{Kind: api.WireValue})
	_, _, out, _ := s.Multiply(v, v.Add(circuit.Const(num(1))))
	s.Require(circuit.Of(out).Sub(circuit.Const(num(12))))
	s.Gate()
	a := circuit.Assignment{L: nums(3, 3, 2), R: nums(0, 4, 5), O: nums(0, 12, 10), V: nums(3)}
	_, proof, e := arith.ProveBytes(s, "known", a, nums(7), hash.Stretch([]byte("known"), 64*16))
	errno(t, "ProveBytes", e, api.OK)
	sum := hash.Sum(proof)
	if got := wire.Hex(sum[:8]); got != knownHash {
		t.Errorf("the proof's hash begins with %s", got)
	}
}

func TestP2109ErrorsOfProveBytes(t *testing.T) {
	t.Parallel()
	m := sample.Maker(21090)
	k := makeUp(&m, shape{2, 3, 2})
	refused := func(what string, s *circuit.System, a circuit.Assignment, blinds []scalar.Scalar, length int, want api.Errno) {
		t.Helper()
		v, proof, e := arith.ProveBytes(s, "label", a, blinds, slices.Concat(k.stream, k.stream)[:length])
		errno(t, what, e, want)
		if want != api.OK && (len(v) != 0 || len(proof) != 0) {
			t.Errorf("%s: bytes beside an error", what)
		}
	}
	need := 64 * (2*4 + 8)
	refused("nothing", k.s, k.a, k.blinds, need, api.OK)
	refused("a longer stream", k.s, k.a, k.blinds, need+63, api.OK)

	gate, require, both := k.a, k.a, k.a
	gate.O = slices.Clone(k.a.O)
	gate.O[2] = gate.O[2].Add(num(1))
	require.V = slices.Clone(k.a.V)
	require.V[1] = require.V[1].Add(num(1))
	both.O, both.V = gate.O, require.V
	for _, s := range noSystems() {
		refused("no system", s, k.a, k.blinds, need, api.ErrArg)
		refused("no system and all else", s, both, k.blinds[1:], 0, api.ErrArg)
	}
	for _, length := range []int{0, 1, need - 64, need - 1} {
		refused("the stream", k.s, k.a, k.blinds, length, api.ErrShort)
		refused("the stream and a gate", k.s, gate, k.blinds, length, api.ErrShort)
		refused("the stream and a requirement", k.s, require, k.blinds, length, api.ErrShort)
	}
	refused("a gate", k.s, gate, k.blinds, need, api.ErrGate)
	refused("a requirement", k.s, require, k.blinds, need, api.ErrRequire)
	refused("a gate and a requirement", k.s, both, k.blinds, need, api.ErrGate)

	for i := range 5 {
		for _, by := range []int{-1, 1} {
			for _, from := range []circuit.Assignment{k.a, gate, require} {
				a, blinds := from, k.blinds
				list := []*[]scalar.Scalar{&a.L, &a.R, &a.O, &a.V, &blinds}[i]
				if by < 0 {
					*list = (*list)[:len(*list)-1]
				} else {
					*list = append(slices.Clip(*list), num(0))
				}
				refused("a length", k.s, a, blinds, need, api.ErrLength)
				refused("a length and the stream", k.s, a, blinds, need-1, api.ErrLength)
			}
		}
	}
	refused("no lists", k.s, circuit.Assignment{}, nil, need, api.ErrLength)
}

// expected: what Explain must answer, by the calls of the layers below.
func expected(s *circuit.System, label string, v []api.Bytes32, proof []byte) api.Errno {
	size := arith.Size(s)
	rounds := 0
	for n := size; n > 1; n /= 2 {
		rounds++
	}
	if size == 0 {
		return api.ErrArg
	}
	if len(v) != s.Values() || len(proof) != 32*(13+2*rounds) {
		return api.ErrLength
	}
	var list []group.Point
	for _, b := range v {
		c, e := group.Point{}.Decode(b)
		if e != api.OK {
			return e
		}
		list = append(list, c)
	}
	x, e := arith.DecodeProof[group.Point](proof)
	if e != api.OK {
		return e
	}
	g, _ := gens.Standard(size)
	return arith.Rounds(g, s, list, x, transcript.New(label))
}

// judged: both verifiers of bytes must answer as is expected; nothing here is met by one chance in 2^252.
func judged(t *testing.T, what string, s *circuit.System, v []api.Bytes32, proof []byte) api.Errno {
	t.Helper()
	want := expected(s, "label", v, proof)
	errno(t, "Explain: "+what, arith.Explain(s, "label", v, proof), want)
	yes := arith.VerifyBytes(s, "label", v, proof)
	if yes != (want == api.OK) {
		t.Errorf("VerifyBytes: %s: %v, and Explain answers %d", what, yes, want)
	}
	return want
}

// Every part of a proof and of the commitments turned, at its first byte, its last, and in between.
func TestP2109TurnedBytes(t *testing.T) {
	t.Parallel()
	m := sample.Maker(21091)
	k := makeUp(&m, shape{2, 3, 2})
	v, proof, e := arith.ProveBytes(k.s, "label", k.a, k.blinds, k.stream)
	errno(t, "ProveBytes", e, api.OK)
	errno(t, "the proof", judged(t, "the proof", k.s, v, proof), api.OK)
	met := map[api.Errno]int{}
	for part := range len(proof) / 32 {
		for _, place := range []int{0, 7, 31} {
			for _, by := range []byte{1, 2, 64, 128} {
				bad := bytes.Clone(proof)
				bad[32*part+place] ^= by
				met[judged(t, "a turned proof", k.s, v, bad)]++
			}
		}
	}
	for j := range v {
		for _, place := range []int{0, 7, 31} {
			for _, by := range []byte{1, 2, 64, 128} {
				bad := slices.Clone(v)
				bad[j][place] ^= by
				met[judged(t, "a turned commitment", k.s, bad, proof)]++
			}
		}
	}
	if met[api.OK] != 0 || met[api.ErrCanon] == 0 || met[api.ErrPoint] == 0 || met[api.ErrFirst] == 0 {
		t.Errorf("met %v", met)
	}
	errno(t, "commitments changed for one another", judged(t, "commitments", k.s, []api.Bytes32{v[1], v[0]}, proof), api.ErrFirst)
}

// A proof with one field another one that can be read: refused with what the numbers say.
func TestP2109AnotherField(t *testing.T) {
	t.Parallel()
	m := sample.Maker(21092)
	k := makeUp(&m, shape{1, 3, 2})
	v, proof, _ := arith.ProveBytes(k.s, "label", k.a, k.blinds, k.stream)
	for place := range len(proof) / 32 {
		bad := bytes.Clone(proof)
		if isScalar(place, 2) {
			b, _ := scalar.Decode(api.Bytes32(bad[32*place : 32*place+32]))
			next := b.Add(num(1)).Encode()
			copy(bad[32*place:], next[:])
		} else {
			b, _ := group.Point{}.Decode(api.Bytes32(bad[32*place : 32*place+32]))
			next := b.Add(group.Base()).Encode()
			copy(bad[32*place:], next[:])
		}
		// On mu, L, R, a and b, of which the first equation says nothing, neither y, z nor x hang.
		want := api.ErrFirst
		if place == 9 || place >= 11 {
			want = api.ErrSecond
		}
		errno(t, "Explain of another field", judged(t, "another field", k.s, v, bad), want)
	}
}

// Wrong inputs of the verifiers, in the order of their errors.
func TestP2109ErrorsOfExplain(t *testing.T) {
	t.Parallel()
	m := sample.Maker(21093)
	k := makeUp(&m, shape{2, 3, 2})
	v, proof, _ := arith.ProveBytes(k.s, "label", k.a, k.blinds, k.stream)
	broken := func(b api.Bytes32) api.Bytes32 { b[31] |= 128; return b } // no canonical field element
	odd := api.Bytes32{2}                                                // no element
	scalarFault, elementFault := bytes.Clone(proof), bytes.Clone(proof)
	copy(scalarFault[32*8:], notCanonical()[0])
	copy(elementFault[32*3:], odd[:])
	both := bytes.Clone(elementFault)
	copy(both[32*8:], notCanonical()[0])
	for _, s := range noSystems() {
		errno(t, "no system", judged(t, "no system", s, v, proof), api.ErrArg)
		errno(t, "no system and nothing", judged(t, "no system", s, nil, nil), api.ErrArg)
	}
	for _, c := range []struct {
		what  string
		v     []api.Bytes32
		proof []byte
		want  api.Errno
	}{
		{"one commitment too few", v[:1], proof, api.ErrLength},
		{"one too many", append(slices.Clip(v), v[0]), proof, api.ErrLength},
		{"none", nil, proof, api.ErrLength},
		{"one too few, which can't be read", []api.Bytes32{odd}, both, api.ErrLength},
		{"one too many, which can't be read", append(slices.Clip(v), broken(v[0])), scalarFault, api.ErrLength},
		{"a byte too few", v, proof[1:], api.ErrLength},
		{"a byte too many", v, append(slices.Clip(proof), 0), api.ErrLength},
		{"a round too few", v, proof[64:], api.ErrLength},
		{"a round too many", v, append(slices.Clip(proof), make([]byte, 64)...), api.ErrLength},
		{"a length and commitments", []api.Bytes32{broken(v[0]), odd}, proof[1:], api.ErrLength},
		{"the first commitment", []api.Bytes32{broken(v[0]), odd}, both, api.ErrCanon},
		{"the second commitment", []api.Bytes32{v[0], odd}, scalarFault, api.ErrPoint},
		{"both the other way round", []api.Bytes32{odd, broken(v[1])}, scalarFault, api.ErrPoint},
		{"an element and a scalar", v, both, api.ErrPoint},
		{"a scalar", v, scalarFault, api.ErrCanon},
		{"a scalar, of other commitments", []api.Bytes32{v[1], v[0]}, scalarFault, api.ErrCanon},
		{"other commitments", []api.Bytes32{v[1], v[0]}, proof, api.ErrFirst},
		{"nothing", v, proof, api.OK},
	} {
		errno(t, c.what, judged(t, c.what, k.s, c.v, c.proof), c.want)
	}
}

// The same proof of another system: of one more gate or requirement, of one factor more.
func TestP2109OtherSystems(t *testing.T) {
	t.Parallel()
	m := sample.Maker(21094)
	k := makeUp(&m, shape{1, 3, 2})
	v, proof, _ := arith.ProveBytes(k.s, "label", k.a, k.blinds, k.stream)
	errno(t, "Explain", judged(t, "the system", k.s, v, proof), api.OK)
	for _, turn := range []func(s *circuit.System) api.Errno{
		func(s *circuit.System) api.Errno { _, _, _, e := s.Gate(); return e },
		func(s *circuit.System) api.Errno { return s.Require(nil) },
		func(s *circuit.System) api.Errno { return s.Require(circuit.Const(num(1))) },
	} {
		s := k.s.Clone()
		errno(t, "the other system", turn(s), api.OK)
		if e := judged(t, "another system", s, v, proof); e != api.ErrFirst && e != api.ErrSecond {
			t.Errorf("Explain: %d", e)
		}
	}
	again, _ := circuit.Decode(k.s.Encode())
	errno(t, "the same system", judged(t, "the same system", again, v, proof), api.OK)
}

// The greatest system, in bytes.
func TestP2109TheGreatestSystem(t *testing.T) {
	t.Parallel()
	m := sample.Maker(21095)
	k := makeUp(&m, shape{16, 1024, 9})
	v, proof, e := arith.ProveBytes(k.s, "great", k.a, k.blinds, k.stream)
	if e != api.OK || len(v) != 16 || len(proof) != 32*33 {
		t.Fatalf("ProveBytes: %d, %d bytes", e, len(proof))
	}
	if !arith.VerifyBytes(k.s, "great", v, proof) || arith.VerifyBytes(k.s, "great", append(v[1:], v[0]), proof) {
		t.Error("VerifyBytes")
	}
}
