package party_test

// P1407: parties and dealer at once: wrong inputs, and that nothing is seen of how the goroutines run.

import (
	"runtime"
	"sync/atomic"
	"testing"
	"time"

	"veil/api"
	"veil/gens"
	"veil/group"
	"veil/msm"
	"veil/party"
	"veil/ranges"
	"veil/sample"
	"veil/scalar"
	"veil/transcript"
	"veil/wire"
)

// handedLines: openings of small values and tapes that fit, over Line.
func handedLines(p api.Params) ([]ranges.Opening, []ranges.Tape) {
	var tapes []ranges.Tape
	for range p.Count {
		tapes = append(tapes, tapeOfLength(p.Bits, p.Bits))
	}
	return make([]ranges.Opening, p.Count), tapes
}

// refusedTogether: with this error, and nothing is said; without an Oracle, with api.ErrArg.
func refusedTogether(t *testing.T, g gens.Set[msm.Line], p api.Params, vs []ranges.Opening, tapes []ranges.Tape, want api.Errno) {
	t.Helper()
	o := &oracle{list: nums(1, 2, 3, 4, 5, 6, 7, 8, 9, 10, 11, 12, 13, 14, 15, 16)}
	v, x, e := party.Together(g, p, vs, tapes, o)
	noProof(t, "Together", v, x, e, want)
	heard(t, "Together", o.heard, nil)
	v, x, e = party.Together(g, p, vs, tapes, nil)
	noProof(t, "Together without an Oracle", v, x, e, api.ErrArg)
}

// Wrong inputs, alone and together, in the order of their errors.
func TestP1407OrderOfErrors(t *testing.T) {
	for _, p := range noParams() {
		vs, tapes := handedLines(api.Params{Bits: 8, Count: 1})
		vs[0].V = 256
		refusedTogether(t, lineSet(8, 8), p, vs, tapes, api.ErrParams)
		refusedTogether(t, lineSet(0, 0), p, nil, nil, api.ErrParams)
	}
	for _, p := range []api.Params{{Bits: 1, Count: 1}, {Bits: 2, Count: 2}, {Bits: 4, Count: 4}, {Bits: 1, Count: 16}} {
		n := p.Size()
		for _, values := range [][]uint64{make([]uint64, p.Count), tooGreat(p)} {
			vs, tapes := handedLines(p)
			for j, v := range values {
				vs[j].V = v
			}
			refusedTogether(t, lineSet(n-1, n), p, vs, tapes, api.ErrLength)
			refusedTogether(t, lineSet(n, n-1), p, vs, tapes, api.ErrLength)
			refusedTogether(t, lineSet(n, n), p, vs[1:], tapes, api.ErrLength)
			refusedTogether(t, lineSet(n, n), p, append(vs, vs[0]), tapes, api.ErrLength)
			refusedTogether(t, lineSet(n, n), p, nil, nil, api.ErrLength)
			for _, bad := range spoiltTapes(p) {
				refusedTogether(t, lineSet(n, n), p, vs, bad, api.ErrLength)
				refusedTogether(t, lineSet(n-1, n-1), p, vs[1:], bad, api.ErrLength)
			}
		}
	}
}

func tooGreat(p api.Params) []uint64 {
	list := make([]uint64, p.Count)
	for j := range list {
		list[j] = 1 << p.Bits
	}
	return list
}

// At each place 0 and 2^n - 1 are taken; 2^n and more are refused; of 64 bits nothing is.
func TestP1407Values(t *testing.T) {
	for _, p := range []api.Params{{Bits: 1, Count: 1}, {Bits: 1, Count: 4}, {Bits: 8, Count: 2}, {Bits: 32, Count: 2}, {Bits: 64, Count: 2}} {
		top := uint64(1) << p.Bits // 0 for 64 bits
		for j := range p.Count {
			for _, value := range []uint64{0, 1, top - 1, top, top + 1, 1<<64 - 1} {
				vs, tapes := handedLines(p)
				vs[j].V = value
				g := lineSet(p.Size(), p.Size())
				if p.Bits < 64 && value >= top {
					refusedTogether(t, g, p, vs, tapes, api.ErrValue)
					continue
				}
				v, x, e := party.Together(g, p, vs, tapes, transcript.New("values"))
				errno(t, "Together", e, api.OK)
				accepted(t, "Together", g, p, v, x, func() transcript.Oracle { return transcript.New("values") })
			}
		}
	}
}

// More generators than N: those behind are not looked at.
func TestP1407MoreGenerators(t *testing.T) {
	p := api.Params{Bits: 2, Count: 4}
	vs, tapes := handedLines(p)
	v, x, e := party.Together(lineSet(8, 8), p, vs, tapes, transcript.New("more"))
	errno(t, "Together", e, api.OK)
	v2, x2, e := party.Together(lineSet(9, 900), p, vs, tapes, transcript.New("more"))
	errno(t, "Together", e, api.OK)
	sameProofs(t, "with more generators", v2, x2, v, x)
}

// How many calls of restless are under way, and how many there were.
var underWay, calls atomic.Int64

// restless: the scalars as a group whose methods let others go ahead, now and then.
type restless struct{ line msm.Line }

func enter() func() {
	underWay.Add(1)
	for range calls.Add(1) * 0x9e3779b9 >> 7 & 3 {
		runtime.Gosched()
	}
	return func() { underWay.Add(-1) }
}

func (a restless) Add(b restless) restless {
	defer enter()()
	return restless{a.line.Add(b.line)}
}

func (a restless) Double() restless {
	defer enter()()
	return restless{a.line.Double()}
}

func (a restless) Times(k scalar.Scalar) restless {
	defer enter()()
	return restless{a.line.Times(k)}
}

func (a restless) Neg() restless        { return restless{a.line.Neg()} }
func (a restless) Same(b restless) bool { return a.line.Same(b.line) }
func (a restless) Encode() api.Bytes32  { return a.line.Encode() }
func (a restless) Decode(b api.Bytes32) (restless, api.Errno) {
	line, e := a.line.Decode(b)
	return restless{line}, e
}

// ended: when a call has answered nothing that it started goes on.
func ended(t *testing.T, what string, call func()) {
	t.Helper()
	before := runtime.NumGoroutine()
	call()
	if underWay.Load() != 0 {
		t.Errorf("%s: something is under way when it has answered", what)
	}
	count := calls.Load()
	if after := settled(before); after > before {
		t.Errorf("%s: %d goroutines behind it, %d ahead of it", what, after, before)
	}
	if calls.Load() != count {
		t.Errorf("%s goes on when it has answered", what)
	}
}

// settled: how many goroutines there are, in a while: one that has done all it does may still be on its way out.
func settled(before int) int {
	for range 1000 {
		if runtime.NumGoroutine() <= before {
			break
		}
		time.Sleep(time.Millisecond)
	}
	return runtime.NumGoroutine()
}

func TestP1407GoroutinesHaveEnded(t *testing.T) {
	m := sample.Maker(1407)
	for _, p := range []api.Params{{Bits: 1, Count: 1}, {Bits: 4, Count: 2}, {Bits: 1, Count: 16}, {Bits: 8, Count: 8}} {
		g := restlessSet(p.Size())
		vs, tapes := handed(&m, anySecrets(&m, p))
		all := limbs(&m, anyAsked(&m, p).list())
		for good := range len(all) + 1 { // the Oracle ends it anywhere, or not at all
			ended(t, "Together", func() {
				_, _, e := party.Together(g, p, vs, tapes, transcript.Given(all[:good]...))
				errno(t, "Together", e, right(good == len(all), api.ErrShort))
			})
		}
		ended(t, "Together with too few tapes", func() {
			_, _, e := party.Together(g, p, vs, tapes[1:], transcript.Given(all...))
			errno(t, "Together", e, api.ErrLength)
		})
		vs[0].V = 1 << 63
		ended(t, "Together with a value that is too great", func() {
			_, _, e := party.Together(g, p, vs, tapes, transcript.Given(all...))
			errno(t, "Together", e, api.ErrValue)
		})
	}
}

// With one processor a goroutine that was waited for is gone when the call answers; one that was not has hardly been told that it may go.
func TestP1407GoroutinesAreWaitedFor(t *testing.T) {
	defer runtime.GOMAXPROCS(runtime.GOMAXPROCS(1))
	p := api.Params{Bits: 1, Count: 16}
	vs, tapes := handedLines(p)
	before := runtime.NumGoroutine()
	for good := range 3 { // it ends at y, at z, at x
		const runs = 20
		left := 0
		for range runs {
			_, _, e := party.Together(lineSet(16, 16), p, vs, tapes, transcript.Given(nums(1, 2)[:good]...))
			if runtime.NumGoroutine() > before {
				left++
			}
			errno(t, "Together", e, api.ErrShort)
			settled(before)
		}
		if left > runs/2 {
			t.Errorf("in %d of %d runs goroutines were left", left, runs)
		}
	}
}

func restlessSet(n int) gens.Set[restless] {
	lines := lineSet(n, n)
	g := gens.Set[restless]{B: restless{lines.B}, Blind: restless{lines.Blind}, Q: restless{lines.Q}}
	for i := range n {
		g.G, g.H = append(g.G, restless{lines.G[i]}), append(g.H, restless{lines.H[i]})
	}
	return g
}

// However the parties run, the answer is the same.
func TestP1407HowTheyRunIsNotSeen(t *testing.T) {
	m := sample.Maker(14070)
	for _, p := range []api.Params{{Bits: 1, Count: 2}, {Bits: 2, Count: 8}, {Bits: 1, Count: 16}} {
		vs, tapes := handed(&m, anySecrets(&m, p))
		given := limbs(&m, anyAsked(&m, p).list())
		single := &oracle{list: given}
		v, x := alone(t, lineSet(p.Size(), p.Size()), p, vs, tapes, single)
		sent, _ := wire.EncodeProof(x)
		for range 30 {
			o := &oracle{list: given}
			v2, x2, e := party.Together(restlessSet(p.Size()), p, vs, tapes, o)
			errno(t, "Together", e, api.OK)
			again, _ := wire.EncodeProof(x2)
			if string(again) != string(sent) {
				t.Fatalf("%v: another proof", p)
			}
			for j := range v2 {
				if v2[j].line != v[j] {
					t.Fatalf("%v: another commitment", p)
				}
			}
			heard(t, "Together", o.heard, single.heard)
		}
	}
}

// Not even by the looks of the elements, of which a Point has many.
func TestP1407LooksOfElements(t *testing.T) {
	m := sample.Maker(14071)
	p := api.Params{Bits: 1, Count: 8}
	g, _ := gens.Standard(p.Size())
	vs, tapes := handed(&m, anySecrets(&m, p))
	var first []group.Point
	for range 12 {
		v, x, e := party.Together(g, p, vs, tapes, transcript.New("looks"))
		errno(t, "Together", e, api.OK)
		all := append(v, x.A, x.S, x.T1, x.T2)
		all = append(append(all, x.L...), x.R...)
		if first == nil {
			first = all
		}
		for i := range all {
			if all[i] != first[i] {
				t.Fatalf("element %d has another look", i)
			}
		}
	}
}

// Many at one time don't meet.
func TestP1407ManyAtOneTime(t *testing.T) {
	m := sample.Maker(14072)
	p := api.Params{Bits: 2, Count: 4}
	g := lineSet(8, 8)
	vs, tapes := handed(&m, anySecrets(&m, p))
	_, want, e := party.Together(g, p, vs, tapes, transcript.New("many"))
	errno(t, "Together", e, api.OK)
	sent, _ := wire.EncodeProof(want)
	answers := make(chan string)
	for range 8 {
		go func() {
			_, x, _ := party.Together(g, p, vs, tapes, transcript.New("many"))
			again, _ := wire.EncodeProof(x)
			answers <- string(again)
		}()
	}
	for range 8 {
		if <-answers != string(sent) {
			t.Error("another proof beside others")
		}
	}
}
