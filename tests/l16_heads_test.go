package tests

import (
	"bytes"
	"math"
	"math/rand"
	"slices"
	"strconv"
	"testing"

	"loop.example/g00041/impl"
)

func TestHeadConstants(t *testing.T) {
	if impl.WtBad != 1 || impl.WtSig != 2 || impl.WtOld != 3 || impl.WtFork != 4 || impl.HcSig != 1 || impl.HcAge != 2 || impl.HcFew != 3 {
		t.Error("codes of witnesses and heads")
	}
	if impl.MaxViewOps != 100 || impl.VwAdd != 1 || impl.VwCopy != 2 || impl.VwShow != 3 || impl.VwMeet != 4 || impl.VoOK != 0 || impl.VoNo != 1 {
		t.Error("kinds and codes of views")
	}
}

// headSecrets are of both schemes, not used up.
func headSecrets() []impl.Secret {
	return []impl.Secret{secretNo(0), treeNo(7), {Scheme: impl.ScTree, X: 7, Height: 1, Next: 1}, {Scheme: impl.ScTree, X: 9, Height: 3, Next: 5}}
}

func usedUp(height int64) impl.Secret {
	return impl.Secret{Scheme: impl.ScTree, X: 7, Height: height, Next: 1 << height}
}

func TestSignHead(t *testing.T) {
	for _, s := range headSecrets() {
		for _, log := range []int64{1, 2, 127, 128, 999, 1000} {
			for _, at := range []int64{0, 1, 128, impl.MaxTime - 1, impl.MaxTime} {
				for _, n := range []int{0, 1, 2, 7, 200} {
					want := headOf(logRow(n), at)
					want.Log = log
					want = signedHead(want, s)
					got, next, code := impl.SignHead(log, logRow(n), at, s)
					if code != 0 || next != goesOn(s) || !sameHead(got, want) {
						t.Fatal(log, n, at, "got", got, next, code, "want", want)
					}
					if !impl.HeadSigned(got, pubOfSecret(s)) || impl.HeadSigned(got, pubNo(9)) {
						t.Fatal(log, n, at, "is not taken, or with another key")
					}
				}
			}
		}
	}
}

func TestHeadsOfRowsOfZero(t *testing.T) {
	for n, row := range [][]uint64{nil, {0}, {0, 0}} {
		h, _, code := impl.SignHead(1, row, 5, secretNo(0))
		if code != 0 || h.Size != int64(n) || h.Root != slowRoot(row) || !impl.HeadSigned(h, pubNo(0)) {
			t.Error(row, h, code)
		}
	}
}

func TestSignHeadRefuses(t *testing.T) {
	refuse := func(want int64, log int64, row []uint64, at int64, s impl.Secret) {
		t.Helper()
		if h, next, code := impl.SignHead(log, row, at, s); code != want || !noHead(h) || next != (impl.Secret{}) {
			t.Error(log, len(row), at, s, "got", h, next, code, "want", want)
		}
	}
	secrets := append(headSecrets(), impl.Secret{}, usedUp(1))
	for _, s := range secrets {
		for _, log := range append(farNumbers(), 0, 1001) {
			refuse(impl.CBad, log, logRow(3), 5, s)
		}
		for _, at := range []int64{math.MinInt64, -1, impl.MaxTime + 1, math.MaxInt64} {
			refuse(impl.CBad, 1, logRow(3), at, s)
		}
		refuse(impl.CBad, 1, make([]uint64, 201), 5, s)
		refuse(impl.CBad, 1, make([]uint64, 40000), 5, s)
		refuse(impl.CBad, 0, make([]uint64, 201), -1, s)
	}
	for _, s := range wrongSecrets() {
		refuse(impl.TrKey, 1, logRow(3), 5, s)
	}
	for height := range int64(6) {
		refuse(impl.TrEmpty, 1, logRow(3), 5, usedUp(height))
		refuse(impl.TrEmpty, 1000, nil, 0, usedUp(height))
	}
}

func TestAHeadsKeyIsUsedUp(t *testing.T) {
	s := impl.Secret{Scheme: impl.ScTree, X: 3, Height: 2}
	p := pubOfSecret(s)
	for i := range 4 {
		h, next, code := impl.SignHead(1, logRow(i), int64(i), s)
		if code != 0 || next.Next != int64(i)+1 || !impl.HeadSigned(h, p) {
			t.Fatal(i, h, next, code)
		}
		s = next
	}
	if h, next, code := impl.SignHead(1, logRow(4), 4, s); code != impl.TrEmpty || !noHead(h) || next != (impl.Secret{}) {
		t.Error("used up", h, next, code)
	}
}

func TestAPlainHeadIsSignedAsTold(t *testing.T) {
	s := secretNo(0)
	row := []uint64{1, 2}
	body := slices.Concat([]byte{102, 20, 2, 2, 3, 232, 2, 1, 2, 4, 8}, eight(1463790861407302891), []byte{2, 1, 100})
	body[1] = byte(len(body) - 2)
	sig, _, _ := impl.SignAny(s, body)
	h, _, code := impl.SignHead(1000, row, 100, s)
	if code != 0 || !bytes.Equal(h.Sig, sig) || !bytes.Equal(slowHeadBody(h), body) {
		t.Error(h, code, "want", sig, slowHeadBody(h))
	}
	body[0], body[len(body)-1] = 103, 101
	sig, _, _ = impl.SignAny(secretNo(1), body)
	w, c, next, code := impl.Watch(impl.Watcher{Log: 1000}, h, nil, pubNo(0), 101, secretNo(1))
	if code != 0 || w != (impl.Watcher{Log: 1000, Size: 2, Root: h.Root}) || next != secretNo(1) || !sameCosig(c, impl.Cosig{Key: impl.KeyId(pubNo(1)), At: 101, Sig: sig}) {
		t.Error(w, c, next, code, "want", sig)
	}
}

func TestHeadsOfWhichSomethingIsBent(t *testing.T) {
	changes := []func(h *impl.Head){
		func(h *impl.Head) { h.Log++ },
		func(h *impl.Head) { h.Log = 1 },
		func(h *impl.Head) { h.Size++ },
		func(h *impl.Head) { h.Size-- },
		func(h *impl.Head) { h.Size, h.Root = 0, 0 },
		func(h *impl.Head) { h.Root ^= 1 },
		func(h *impl.Head) { h.Root ^= 1 << 63 },
		func(h *impl.Head) { h.Root = 0 },
		func(h *impl.Head) { h.At++ },
		func(h *impl.Head) { h.At = 0 },
		func(h *impl.Head) { h.Sig = nil },
		func(h *impl.Head) { h.Sig = append(h.Sig, 0) },
		func(h *impl.Head) { h.Sig = append(h.Sig, h.Sig...) },
		func(h *impl.Head) { h.Sig = make([]byte, 5000) },
	}
	for _, s := range headSecrets() {
		p := pubOfSecret(s)
		h, _, _ := impl.SignHead(7, logRow(9), 500, s)
		for i, change := range changes {
			if impl.HeadSigned(changedHead(h, change), p) {
				t.Error("taken, changed by", i)
			}
		}
		for i := range h.Sig {
			turned := changedHead(h, func(h *impl.Head) { h.Sig[i] ^= byte(1 << (i % 8)) })
			if impl.HeadSigned(turned, p) || impl.HeadSigned(changedHead(h, func(h *impl.Head) { h.Sig = h.Sig[:i] }), p) {
				t.Error("taken, turned or cut at", i)
			}
		}
		// What a witness signs is not what a log signs.
		h.Sig = cosigned(h, h.At, s).Sig
		if impl.HeadSigned(h, p) {
			t.Error("a witness's signature is taken as the log's")
		}
	}
}

func TestHeadsThatNobodySigns(t *testing.T) {
	rows := []struct {
		why    string
		change func(h *impl.Head)
		want   bool
	}{
		{"as it is", func(h *impl.Head) {}, true},
		{"Log 0", func(h *impl.Head) { h.Log = 0 }, false}, {"Log 1", func(h *impl.Head) { h.Log = 1 }, true}, {"Log 1000", func(h *impl.Head) { h.Log = 1000 }, true}, {"Log 1001", func(h *impl.Head) { h.Log = 1001 }, false},
		{"Log -1", func(h *impl.Head) { h.Log = -1 }, false}, {"the least Log", func(h *impl.Head) { h.Log = math.MinInt64 }, false}, {"the greatest Log", func(h *impl.Head) { h.Log = math.MaxInt64 }, false},
		{"Size 0 with a Root", func(h *impl.Head) { h.Size = 0 }, false}, {"Size 0 with the Root 1", func(h *impl.Head) { h.Size, h.Root = 0, 1 }, false}, {"Size 0 without a Root", func(h *impl.Head) { h.Size, h.Root = 0, 0 }, true}, {"Size 1 without a Root", func(h *impl.Head) { h.Size, h.Root = 1, 0 }, true},
		{"Size -1", func(h *impl.Head) { h.Size = -1 }, false}, {"Size -1 without a Root", func(h *impl.Head) { h.Size, h.Root = -1, 0 }, false}, {"Size MaxLog", func(h *impl.Head) { h.Size = 200 }, true}, {"one more", func(h *impl.Head) { h.Size = 201 }, false}, {"the greatest Size", func(h *impl.Head) { h.Size = math.MaxInt64 }, false},
		{"At -1", func(h *impl.Head) { h.At = -1 }, false}, {"At 0", func(h *impl.Head) { h.At = 0 }, true}, {"At MaxTime", func(h *impl.Head) { h.At = impl.MaxTime }, true}, {"one more second", func(h *impl.Head) { h.At = impl.MaxTime + 1 }, false}, {"the least At", func(h *impl.Head) { h.At = math.MinInt64 }, false},
	}
	for _, row := range rows {
		for _, s := range headSecrets() {
			h := signedHead(changedHead(headOf(logRow(3), 50), row.change), s)
			if got := impl.HeadSigned(h, pubOfSecret(s)); got != row.want {
				t.Error(row.why, "got", got)
			}
		}
	}
	h := signedHead(headOf(logRow(3), 50), secretNo(0))
	for _, p := range []impl.Pub{{}, pubNo(1), {Scheme: 2, Y: pubNo(0).Y}, {Scheme: 3, Y: pubNo(0).Y}, {Scheme: 1, Y: 1}, {Scheme: 1, Y: pubNo(0).Y, Height: 1}, {Scheme: 1, Y: impl.P}} {
		if impl.HeadSigned(h, p) {
			t.Error("taken with", p)
		}
	}
	if impl.HeadSigned(impl.Head{}, impl.Pub{}) || impl.HeadSigned(impl.Head{}, pubNo(0)) {
		t.Error("the zero value")
	}
}

// watching is all that Watch is asked with.
type watching struct {
	w     impl.Watcher
	head  impl.Head
	proof []uint64
	log   impl.Pub
	at    int64
	s     impl.Secret
}

func wantWatch(t *testing.T, why string, x watching, want int64) {
	t.Helper()
	w, c, next, code := impl.Watch(x.w, x.head, x.proof, x.log, x.at, x.s)
	if code != want {
		t.Error(why, "got", code, "want", want)
	}
	if code != 0 {
		if w != (impl.Watcher{}) || !noCosig(c) || next != (impl.Secret{}) {
			t.Error(why, "with the code", code, "got", w, c, next)
		}
		return
	}
	if w != (impl.Watcher{Log: x.head.Log, Size: x.head.Size, Root: x.head.Root}) || next != goesOn(x.s) || !sameCosig(c, cosigned(x.head, x.at, x.s)) {
		t.Error(why, "got", w, c, next)
	}
}

// plainWatching is of a witness that saw three digests and is shown five.
func plainWatching() watching {
	return watching{
		w: impl.Watcher{Log: 1, Size: 3, Root: slowRoot(logRow(3))}, head: signedHead(headOf(logRow(5), 100), secretNo(0)),
		proof: slowExtend(logRow(5), 3), log: pubNo(0), at: 110, s: secretNo(1),
	}
}

func changedWatching(change func(x *watching)) watching {
	x := plainWatching()
	change(&x)
	return x
}

type watchRow struct {
	why    string
	want   int64
	change func(x *watching)
}

func watchRows() []watchRow {
	sign := func(x *watching, change func(h *impl.Head)) {
		x.head = signedHead(changedHead(x.head, change), secretNo(0))
	}
	knows := func(x *watching, n int) { x.w.Size, x.w.Root = int64(n), slowRoot(logRow(n)) }
	return []watchRow{
		{"as it is", 0, func(x *watching) {}},
		{"a tree signs", 0, func(x *watching) { x.s = treeNo(4) }},
		{"Log 0", impl.WtBad, func(x *watching) { x.w.Log = 0 }}, {"Log -1", impl.WtBad, func(x *watching) { x.w.Log = -1 }}, {"Log 1001", impl.WtBad, func(x *watching) { x.w.Log = 1001 }},
		{"Log 1000 of both", 0, func(x *watching) { x.w.Log = 1000; sign(x, func(h *impl.Head) { h.Log = 1000 }) }},
		{"Log 1001 of both", impl.WtBad, func(x *watching) { x.w.Log = 1001; sign(x, func(h *impl.Head) { h.Log = 1001 }) }},
		{"Size -1", impl.WtBad, func(x *watching) { x.w.Size = -1 }}, {"Size 0 with a Root", impl.WtBad, func(x *watching) { x.w.Size = 0 }}, {"one more than MaxLog", impl.WtBad, func(x *watching) { x.w.Size = 201 }}, {"the least Size", impl.WtBad, func(x *watching) { x.w.Size = math.MinInt64 }},
		{"at -1", impl.WtBad, func(x *watching) { x.at = -1 }}, {"at 0", 0, func(x *watching) { x.at = 0 }}, {"ahead of the head's At", 0, func(x *watching) { x.at = 99 }}, {"at MaxTime", 0, func(x *watching) { x.at = impl.MaxTime }}, {"one more second", impl.WtBad, func(x *watching) { x.at = impl.MaxTime + 1 }},
		{"the log's key is another", impl.WtSig, func(x *watching) { x.log = pubNo(2) }}, {"the log's key is none", impl.WtSig, func(x *watching) { x.log = impl.Pub{} }}, {"no Sig", impl.WtSig, func(x *watching) { x.head.Sig = nil }}, {"the head is bent", impl.WtSig, func(x *watching) { x.head.At++ }},
		{"a head that nobody signs", impl.WtSig, func(x *watching) { sign(x, func(h *impl.Head) { h.Size = 201 }) }}, {"a head of another Log", impl.WtSig, func(x *watching) { sign(x, func(h *impl.Head) { h.Log = 2 }) }}, {"a witness of another Log", impl.WtSig, func(x *watching) { x.w.Log = 2 }},
		{"a greater Size is known", impl.WtOld, func(x *watching) { knows(x, 6) }}, {"MaxLog is known", impl.WtOld, func(x *watching) { knows(x, 200) }}, {"an empty head", impl.WtOld, func(x *watching) { sign(x, func(h *impl.Head) { h.Size, h.Root = 0, 0 }) }},
		{"a greater Size, with a proof the other way", impl.WtOld, func(x *watching) { knows(x, 7); x.proof = slowExtend(logRow(7), 5) }},
		{"nothing is known", 0, func(x *watching) { knows(x, 0); x.proof = nil }}, {"nothing is known, and there is a proof", 0, func(x *watching) { knows(x, 0) }}, {"nothing is known, and nothing shown", 0, func(x *watching) { knows(x, 0); sign(x, func(h *impl.Head) { h.Size, h.Root = 0, 0 }) }},
		{"the same Size", 0, func(x *watching) { knows(x, 5); x.proof = nil }}, {"the same Size, with a proof", impl.WtFork, func(x *watching) { knows(x, 5) }}, {"the same Size, another Root", impl.WtFork, func(x *watching) { knows(x, 5); x.w.Root ^= 1; x.proof = nil }},
		{"a whole part is known", 0, func(x *watching) { knows(x, 4); x.proof = slowExtend(logRow(5), 4) }}, {"a whole part is known, another Root", impl.WtFork, func(x *watching) { knows(x, 4); x.w.Root++; x.proof = slowExtend(logRow(5), 4) }},
		{"one is known", 0, func(x *watching) { knows(x, 1); x.proof = slowExtend(logRow(5), 1) }}, {"all but one", 0, func(x *watching) { knows(x, 4); x.proof = slowExtend(logRow(5), 4) }},
		{"another Root is known", impl.WtFork, func(x *watching) { x.w.Root ^= 1 }}, {"the Root 0 is known", impl.WtFork, func(x *watching) { x.w.Root = 0 }}, {"no proof", impl.WtFork, func(x *watching) { x.proof = nil }}, {"the proof is cut", impl.WtFork, func(x *watching) { x.proof = x.proof[1:] }},
		{"the proof is bent", impl.WtFork, func(x *watching) { x.proof[2] ^= 1 }}, {"the proof is longer", impl.WtFork, func(x *watching) { x.proof = append(x.proof, 0) }}, {"the proof of another beginning", impl.WtFork, func(x *watching) { x.proof = slowExtend(logRow(5), 4) }}, {"a smaller Size than was seen", impl.WtFork, func(x *watching) { x.w.Size-- }},
		{"no secret", 10 + impl.TrKey, func(x *watching) { x.s = impl.Secret{} }}, {"a secret that is not right", 10 + impl.TrKey, func(x *watching) { x.s.Height = 1 }}, {"a secret that is used up", 10 + impl.TrEmpty, func(x *watching) { x.s = usedUp(2) }}, {"a secret that is used up at once", 10 + impl.TrEmpty, func(x *watching) { x.s = usedUp(0) }},
		{"nothing is known, and no secret", 10 + impl.TrKey, func(x *watching) { knows(x, 0); x.s = impl.Secret{} }},
	}
}

func TestWatch(t *testing.T) {
	for _, row := range watchRows() {
		wantWatch(t, row.why, changedWatching(row.change), row.want)
	}
	for _, s := range wrongSecrets() {
		wantWatch(t, "a wrong secret", changedWatching(func(x *watching) { x.s = s }), 10+impl.TrKey)
	}
	for height := range int64(6) {
		wantWatch(t, "used up", changedWatching(func(x *watching) { x.s = usedUp(height) }), 10+impl.TrEmpty)
	}
	wantWatch(t, "all is zero", watching{}, impl.WtBad)
}

// All faults that can be there at once: the one that is told first counts.
func TestWatchTellsTheFirstFault(t *testing.T) {
	breakers := []watchRow{
		{"bad", impl.WtBad, func(x *watching) { x.at = -1 }},
		{"sig", impl.WtSig, func(x *watching) { x.log = pubNo(2) }},
		{"old", impl.WtOld, func(x *watching) { x.w.Size = x.head.Size + 1 }},
		{"fork", impl.WtFork, func(x *watching) { x.proof = nil }},
		{"secret", 10 + impl.TrKey, func(x *watching) { x.s.X = 0 }},
	}
	for mask := range 1 << len(breakers) {
		x, want, why := plainWatching(), int64(0), ""
		for i, b := range breakers {
			if mask>>i&1 == 1 {
				b.change(&x)
				why += b.why + " "
				if want == 0 {
					want = b.want
				}
			}
		}
		wantWatch(t, why, x, want)
	}
}

func TestAWitnessGoesAlongWithALogThatGrows(t *testing.T) {
	r := rand.New(rand.NewSource(161))
	for _, s := range []impl.Secret{secretNo(1), {Scheme: impl.ScTree, X: 5, Height: 5}} {
		w, n := impl.Watcher{Log: 1}, 0
		for step := range 30 {
			n = min(200, n+oneOf(r, 0, 1, 1, 2, r.Intn(20)))
			h, _, _ := impl.SignHead(1, logRow(n), int64(step), secretNo(0))
			proof, _ := impl.Extend(logRow(n), w.Size)
			next, c, left, code := impl.Watch(w, h, proof, pubNo(0), int64(step), s)
			if code != 0 || next != (impl.Watcher{Log: 1, Size: int64(n), Root: slowRoot(logRow(n))}) {
				t.Fatal(step, n, next, code)
			}
			if code := impl.HeadCheck(h, pubNo(0), []impl.Cosig{c}, []impl.Pub{pubOfSecret(s)}, 1, int64(step), 0); code != 0 {
				t.Fatal("its signature is not taken:", code)
			}
			w, s = next, left
		}
	}
}

func TestAWitnessSignsNoHeadOfAnotherPast(t *testing.T) {
	for _, m := range []int{1, 2, 3, 4, 5, 7, 8, 9, 16, 31, 100, 200} {
		seen := impl.Watcher{Log: 1, Size: int64(m), Root: slowRoot(logRow(m))}
		for _, n := range []int{1, 2, 3, 4, 5, 8, 9, 17, 33, 128, 199, 200} {
			for at := 0; at < min(m, n); at += 1 + m/4 {
				bent := bentRow(n, at)
				h := signedHead(headOf(bent, 5), secretNo(0))
				proofs := [][]uint64{nil, {h.Root}, {seen.Root, h.Root}}
				want := int64(impl.WtOld)
				if n >= m {
					want = impl.WtFork
					proofs = append(proofs, slowExtend(bent, m), slowExtend(logRow(n), m))
					proofs = append(proofs, bentLists(slowExtend(bent, m))...)
				}
				for _, proof := range proofs {
					wantWatch(t, "another past", watching{seen, h, proof, pubNo(0), 9, secretNo(1)}, want)
				}
			}
		}
	}
}

func headCheckRows() []struct {
	why    string
	want   int64
	change func(c *checking)
} {
	type row = struct {
		why    string
		want   int64
		change func(c *checking)
	}
	// alone leaves one witness, whose Cosig may change.
	alone := func(c *checking, change func(x *impl.Cosig)) {
		c.cosigs, c.who, c.least = []impl.Cosig{changedCosig(c.cosigs[0], change)}, c.who[:1], 1
	}
	signedAt := func(c *checking, at int64) {
		alone(c, func(x *impl.Cosig) { *x = cosigned(c.head, at, secretNo(1)) })
	}
	headAtTime := func(c *checking, at int64) { c.head.At = at; c.head = signedHead(c.head, secretNo(0)) }
	return []row{
		{"as it is", 0, func(c *checking) {}},
		{"another key of the log", impl.HcSig, func(c *checking) { c.log = pubNo(1) }}, {"no key of the log", impl.HcSig, func(c *checking) { c.log = impl.Pub{} }}, {"a bent head", impl.HcSig, func(c *checking) { c.head.Size++ }}, {"a head without a Sig", impl.HcSig, func(c *checking) { c.head.Sig = nil }},
		{"now -1", impl.HcAge, func(c *checking) { c.now = -1 }}, {"now past MaxTime", impl.HcAge, func(c *checking) { c.now, c.age = impl.MaxTime+1, math.MaxInt64 }}, {"now MaxTime", 0, func(c *checking) { c.now, c.age = impl.MaxTime, math.MaxInt64 }}, {"the least now", impl.HcAge, func(c *checking) { c.now = math.MinInt64 }}, {"the greatest now", impl.HcAge, func(c *checking) { c.now, c.age = math.MaxInt64, math.MaxInt64 }},
		{"At is now", 0, func(c *checking) { headAtTime(c, checkNow); c.least = 0 }}, {"At is above now", impl.HcAge, func(c *checking) { headAtTime(c, checkNow+1); c.least = 0 }}, {"At is as old as may be", 0, func(c *checking) { headAtTime(c, checkNow-checkAge); c.least = 0 }}, {"At is older by one", impl.HcAge, func(c *checking) { headAtTime(c, checkNow-checkAge-1); c.least = 0 }},
		{"age is met", 0, func(c *checking) { c.age = 50 }}, {"age is passed by one", impl.HcAge, func(c *checking) { c.age = 49 }}, {"age 0 at once", 0, func(c *checking) { c.age, c.now, c.least = 0, headAt, 0 }}, {"age 0 a second later", impl.HcAge, func(c *checking) { c.age, c.now, c.least = 0, headAt+1, 0 }}, {"age -1", impl.HcAge, func(c *checking) { c.age, c.now, c.least = -1, headAt, 0 }}, {"the least age", impl.HcAge, func(c *checking) { c.age, c.now = math.MinInt64, headAt }},
		{"At 0 and now MaxTime", 0, func(c *checking) { headAtTime(c, 0); c.now, c.age, c.least = impl.MaxTime, impl.MaxTime, 0 }}, {"younger by one than that", impl.HcAge, func(c *checking) { headAtTime(c, 0); c.now, c.age, c.least = impl.MaxTime, impl.MaxTime-1, 0 }},
		{"least 0", 0, func(c *checking) { c.least = 0 }}, {"least -1", 0, func(c *checking) { c.least = -1 }}, {"the least least", 0, func(c *checking) { c.least = math.MinInt64 }}, {"fewer are enough", 0, func(c *checking) { c.least = 2 }}, {"one more than there are", impl.HcFew, func(c *checking) { c.least = 4 }}, {"the greatest least", impl.HcFew, func(c *checking) { c.least = math.MaxInt64 }},
		{"nobody, and nobody is needed", 0, func(c *checking) { c.cosigs, c.who, c.least = nil, nil, 0 }}, {"nobody, and one is needed", impl.HcFew, func(c *checking) { c.cosigs, c.who, c.least = nil, nil, 1 }}, {"no cosigs", impl.HcFew, func(c *checking) { c.cosigs, c.least = nil, 1 }}, {"nobody asked", impl.HcFew, func(c *checking) { c.who, c.least = nil, 1 }},
		{"a key twice", impl.HcFew, func(c *checking) { alone(c, func(*impl.Cosig) {}); c.who, c.least = slices.Repeat(c.who, 2), 2 }}, {"a key twice counts once", 0, func(c *checking) { alone(c, func(*impl.Cosig) {}); c.who = slices.Repeat(c.who, 2) }}, {"a cosig twice", impl.HcFew, func(c *checking) { c.cosigs, c.least = slices.Repeat(c.cosigs, 2), 4 }}, {"both twice", impl.HcFew, func(c *checking) { c.cosigs, c.who, c.least = slices.Repeat(c.cosigs, 2), slices.Repeat(c.who, 2), 4 }}, {"both twice, as many as there are", 0, func(c *checking) { c.cosigs, c.who = slices.Repeat(c.cosigs, 2), slices.Repeat(c.who, 2) }},
		{"two cosigs of one, at unlike times", impl.HcFew, func(c *checking) { c.cosigs, c.least = append(c.cosigs, cosigned(c.head, headAt+6, secretNo(1))), 4 }},
		{"a key that is not asked", impl.HcFew, func(c *checking) { c.who = c.who[1:] }}, {"a key that is not asked, without it", 0, func(c *checking) { c.who, c.least = c.who[1:], 2 }}, {"another's key", impl.HcFew, func(c *checking) { alone(c, func(x *impl.Cosig) { x.Key = impl.KeyId(pubNo(3)) }) }}, {"another's cosig by its key", impl.HcFew, func(c *checking) {
			alone(c, func(x *impl.Cosig) { x.Key = impl.KeyId(pubNo(3)) })
			c.who = []impl.Pub{pubNo(1), pubNo(3)}
		}}, {"no key", impl.HcFew, func(c *checking) { alone(c, func(x *impl.Cosig) { x.Key = 0 }) }},
		{"a bad one ahead of a good one", 0, func(c *checking) {
			alone(c, func(*impl.Cosig) {})
			bad := changedCosig(c.cosigs[0], func(x *impl.Cosig) { x.Sig[0] ^= 1 })
			c.cosigs = []impl.Cosig{bad, c.cosigs[0], bad}
		}},
		{"a bent Sig", impl.HcFew, func(c *checking) { alone(c, func(x *impl.Cosig) { x.Sig[1] ^= 1 }) }}, {"no Sig", impl.HcFew, func(c *checking) { alone(c, func(x *impl.Cosig) { x.Sig = nil }) }}, {"the At is bent", impl.HcFew, func(c *checking) { alone(c, func(x *impl.Cosig) { x.At++ }) }}, {"the log's own Sig", impl.HcFew, func(c *checking) {
			alone(c, func(x *impl.Cosig) { *x = impl.Cosig{Key: impl.KeyId(pubNo(0)), At: headAt, Sig: c.head.Sig} })
			c.who = []impl.Pub{pubNo(0)}
		}},
		{"of another Root", impl.HcFew, func(c *checking) {
			alone(c, func(x *impl.Cosig) { *x = cosigned(headOf(bentRow(5, 2), headAt), headAt, secretNo(1)) })
		}}, {"of another Size", impl.HcFew, func(c *checking) {
			alone(c, func(x *impl.Cosig) {
				*x = cosigned(changedHead(c.head, func(h *impl.Head) { h.Size-- }), headAt, secretNo(1))
			})
		}}, {"of another Log", impl.HcFew, func(c *checking) {
			alone(c, func(x *impl.Cosig) {
				*x = cosigned(changedHead(c.head, func(h *impl.Head) { h.Log++ }), headAt, secretNo(1))
			})
		}}, {"of the same at another time", 0, func(c *checking) {
			alone(c, func(x *impl.Cosig) {
				*x = cosigned(changedHead(c.head, func(h *impl.Head) { h.At-- }), headAt, secretNo(1))
			})
		}},
		{"at now", 0, func(c *checking) { signedAt(c, checkNow) }}, {"above now", impl.HcFew, func(c *checking) { signedAt(c, checkNow+1) }}, {"as old as may be", 0, func(c *checking) { signedAt(c, checkNow-checkAge) }}, {"older by one", impl.HcFew, func(c *checking) { signedAt(c, checkNow-checkAge-1) }}, {"ahead of the head", 0, func(c *checking) { signedAt(c, headAt-1) }},
		{"at 0", 0, func(c *checking) { signedAt(c, 0); c.age = math.MaxInt64 }}, {"at no time", impl.HcFew, func(c *checking) { signedAt(c, -1); c.age = math.MaxInt64 }}, {"at the least time", impl.HcFew, func(c *checking) { signedAt(c, math.MinInt64); c.age = math.MaxInt64 }}, {"past MaxTime", impl.HcFew, func(c *checking) { signedAt(c, impl.MaxTime+1); c.now, c.age = impl.MaxTime, math.MaxInt64 }},
		{"a key that is none", impl.HcFew, func(c *checking) {
			c.who, c.least = []impl.Pub{{}, {Scheme: -1}}, 1
			c.cosigs = []impl.Cosig{{Key: impl.KeyId(impl.Pub{}), At: headAt, Sig: c.cosigs[0].Sig}}
		}}, {"one that is none beside the others", 0, func(c *checking) { c.who = append([]impl.Pub{{}}, c.who...) }},
	}
}

func TestHeadCheck(t *testing.T) {
	for _, row := range headCheckRows() {
		c := changedChecking(row.change)
		if got := c.check(); got != row.want {
			t.Error(row.why, "got", got, "want", row.want)
		}
		if got := c.slowCheckOf(); got != row.want {
			t.Error(row.why, "the slow reading says", got, "want", row.want)
		}
	}
	if got := (checking{}).check(); got != impl.HcSig {
		t.Error("all is zero", got)
	}
}

func TestAsManyWitnessesAsMayBe(t *testing.T) {
	c := plainChecking()
	c.cosigs, c.who = nil, nil
	for i := range 21 {
		s := secretNo(i + 1)
		c.cosigs, c.who = append(c.cosigs, cosigned(c.head, headAt, s)), append(c.who, pubOfSecret(s))
	}
	for _, cosigs := range []int{0, 1, 19, 20, 21} {
		for _, who := range []int{0, 1, 19, 20, 21} {
			for _, least := range []int64{-1, 0, 1, int64(min(cosigs, who)), int64(min(cosigs, who)) + 1} {
				x := c
				x.cosigs, x.who, x.least = c.cosigs[:cosigs], c.who[:who], least
				want := int64(0)
				if cosigs > 20 || who > 20 || int64(min(cosigs, who)) < least {
					want = impl.HcFew
				}
				if got := x.check(); got != want {
					t.Error(cosigs, who, least, "got", got, "want", want)
				}
			}
		}
	}
	c.cosigs, c.who, c.least = make([]impl.Cosig, 40000), make([]impl.Pub, 40000), 0
	if got := c.check(); got != impl.HcFew {
		t.Error("many", got)
	}
}

func TestHeadCheckTellsTheFirstFault(t *testing.T) {
	sig, age, few := func(c *checking) { c.log = pubNo(5) }, func(c *checking) { c.now = headAt - 1 }, func(c *checking) { c.least = 9 }
	many := func(c *checking) { c.who = make([]impl.Pub, 21) }
	for mask := range 16 {
		c, want := plainChecking(), int64(0)
		for i, change := range []func(c *checking){sig, age, few, many} {
			if mask>>i&1 == 1 {
				change(&c)
				if want == 0 {
					want = []int64{impl.HcSig, impl.HcAge, impl.HcFew, impl.HcFew}[i]
				}
			}
		}
		if got := c.check(); got != want {
			t.Error(mask, "got", got, "want", want)
		}
	}
}

func TestHeadCheckOfAnything(t *testing.T) {
	r := rand.New(rand.NewSource(162))
	seen := map[int64]int{}
	for range 4000 {
		c := anyChecking(r)
		got, want := c.check(), c.slowCheckOf()
		if got != want {
			t.Fatal("got", got, "want", want, c)
		}
		if got == 0 && c.least > 0 {
			seen[10]++
		}
		seen[got]++
	}
	for _, code := range []int64{0, impl.HcSig, impl.HcAge, impl.HcFew, 10} {
		if seen[code] < 100 {
			t.Error("too few of", code, seen)
		}
	}
}

func wantForked(t *testing.T, why string, heads []impl.Head, i int64, j int64, ok bool) {
	t.Helper()
	if a, b, got := impl.Forked(heads, pubNo(0)); a != i || b != j || got != ok {
		t.Error(why, "got", a, b, got, "want", i, j, ok)
	}
}

func TestForked(t *testing.T) {
	of := func(row []uint64, at int64) impl.Head { return signedHead(headOf(row, at), secretNo(0)) }
	other := func(h impl.Head, change func(h *impl.Head)) impl.Head {
		return signedHead(changedHead(h, change), secretNo(0))
	}
	three, fork, fork2 := of(logRow(3), 5), of(bentRow(3, 1), 5), of(bentRow(3, 2), 9)
	five, five2 := of(logRow(5), 5), of(bentRow(5, 0), 5)
	unsigned := changedHead(fork, func(h *impl.Head) { h.Sig = nil })
	bySomebody := signedHead(fork, secretNo(1))
	ofAnother := other(fork, func(h *impl.Head) { h.Log = 2 })
	ofAnother2 := other(fork2, func(h *impl.Head) { h.Log = 2 })
	tooLarge, tooLarge2 := other(three, func(h *impl.Head) { h.Size = 201 }), other(fork, func(h *impl.Head) { h.Size = 201 })
	rows := []struct {
		why   string
		heads []impl.Head
		i, j  int64
		ok    bool
	}{
		{"none", nil, 0, 0, false}, {"one", []impl.Head{three}, 0, 0, false}, {"two alike", []impl.Head{three, three}, 0, 0, false}, {"two at unlike times", []impl.Head{three, of(logRow(3), 77)}, 0, 0, false},
		{"of unlike Sizes", []impl.Head{three, five, of(logRow(4), 5)}, 0, 0, false}, {"of unlike Sizes, of another past", []impl.Head{three, five2}, 0, 0, false},
		{"one pair", []impl.Head{three, fork}, 0, 1, true}, {"one pair, turned", []impl.Head{fork, three}, 0, 1, true}, {"one pair at unlike times", []impl.Head{three, fork2}, 0, 1, true}, {"one pair behind others", []impl.Head{five, three, of(logRow(1), 5), fork}, 1, 3, true},
		{"three unlike", []impl.Head{three, fork, fork2}, 0, 1, true}, {"the same ahead of another", []impl.Head{three, three, fork}, 0, 2, true}, {"the least first counts", []impl.Head{three, five, five2, fork}, 0, 3, true}, {"the least second of these", []impl.Head{five, three, fork2, fork, five2}, 0, 4, true}, {"the least second", []impl.Head{three, three, fork2, fork}, 0, 2, true},
		{"one is not signed", []impl.Head{three, unsigned}, 0, 0, false}, {"the first is not signed", []impl.Head{unsigned, three}, 0, 0, false}, {"one that is not signed between", []impl.Head{three, unsigned, fork2}, 0, 2, true}, {"one that is not signed ahead", []impl.Head{unsigned, three, fork2}, 1, 2, true}, {"signed by somebody else", []impl.Head{three, bySomebody}, 0, 0, false},
		{"of unlike Logs", []impl.Head{three, ofAnother}, 0, 0, false}, {"of another Log both", []impl.Head{three, ofAnother, ofAnother2}, 1, 2, true}, {"of Sizes that are none", []impl.Head{tooLarge, tooLarge2}, 0, 0, false},
		{"two empty ones", []impl.Head{of(nil, 5), of(nil, 6)}, 0, 0, false}, {"an empty one with a Root", []impl.Head{of(nil, 5), other(of(nil, 5), func(h *impl.Head) { h.Root = 7 })}, 0, 0, false}, {"the Root 0", []impl.Head{of([]uint64{0}, 5), of([]uint64{1}, 5)}, 0, 1, true}, {"zero values", make([]impl.Head, 5), 0, 0, false},
	}
	for _, row := range rows {
		wantForked(t, row.why, row.heads, row.i, row.j, row.ok)
	}
	full := append(slices.Repeat([]impl.Head{three}, 19), fork)
	wantForked(t, "MaxLists", full, 0, 19, true)
	wantForked(t, "the last two of MaxLists", append(slices.Repeat([]impl.Head{five}, 18), three, fork), 18, 19, true)
	wantForked(t, "one more", append(full, fork), 0, 0, false)
	wantForked(t, "one more, none of them signed", make([]impl.Head, 21), 0, 0, false)
	wantForked(t, "many", slices.Repeat(full, 2000), 0, 0, false)
	if i, j, ok := impl.Forked([]impl.Head{three, fork}, impl.Pub{}); i != 0 || j != 0 || ok {
		t.Error("no key", i, j, ok)
	}
	tree := treeNo(3)
	if i, j, ok := impl.Forked([]impl.Head{signedHead(three, tree), signedHead(fork, goesOn(tree))}, pubOfSecret(tree)); i != 0 || j != 1 || !ok {
		t.Error("signed by a tree", i, j, ok)
	}
}

func slowForked(heads []impl.Head, p impl.Pub) (int64, int64, bool) {
	for i, a := range heads {
		for j, b := range heads {
			if i < j && slowHeadSigned(a, p) && slowHeadSigned(b, p) && a.Log == b.Log && a.Size == b.Size && a.Root != b.Root {
				return int64(i), int64(j), true
			}
		}
	}
	return 0, 0, false
}

func TestForkedOfAnyHeads(t *testing.T) {
	r := rand.New(rand.NewSource(163))
	seen := map[string]int{}
	for range 1500 {
		var heads []impl.Head
		for range r.Intn(14) {
			h := headOf(oneOf(r, logRow(3), bentRow(3, 1), logRow(4), logRow(5), logRow(6), bentRow(6, 2), nil), r.Int63n(3))
			h.Log = 1 + r.Int63n(2)
			h = signedHead(h, secretNo(oneOf(r, 0, 0, 0, 1)))
			if r.Intn(10) == 0 {
				h.At++
			}
			heads = append(heads, h)
		}
		i, j, ok := slowForked(heads, pubNo(0))
		wantForked(t, "any heads", heads, i, j, ok)
		seen[strconv.FormatBool(ok)]++
	}
	if seen["true"] < 200 || seen["false"] < 200 {
		t.Error("too few of some", seen)
	}
}
