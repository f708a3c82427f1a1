package tests

import (
	"bytes"
	"math"
	"math/rand"
	"slices"
	"testing"

	"loop.example/g00041/impl"
)

func TestEvidenceConstants(t *testing.T) {
	if impl.MaxChain != 8 || impl.EvForm != 1 || impl.EvOrder != 2 || impl.EvDigest != 3 || impl.EvKey != 4 || impl.EvSig != 5 || impl.EvWeak != 6 {
		t.Error("limit and codes of evidence")
	}
}

func TestDigestBy(t *testing.T) {
	if got := impl.DigestBy(1, []byte("doc")); got != 14390390375767358903 {
		t.Error("of a doc", got)
	}
	seen := map[uint64]int64{}
	for _, data := range [][]byte{nil, {0}, {0, 0}, {1}, []byte("doc"), []byte("dod"), someText(4000), someText(4001), make([]byte, 50000)} {
		for alg := int64(1); alg <= 9; alg++ {
			got := impl.DigestBy(alg, data)
			if got != slowDigestBy(alg, data) || got == 0 {
				t.Error(alg, len(data), got)
			}
			if other, ok := seen[got]; ok {
				t.Error("one digest of", alg, other, len(data))
			}
			seen[got] = alg
		}
		for _, alg := range append(farNumbers(), 0, 10, 11) {
			if got := impl.DigestBy(alg, data); got != 0 {
				t.Error("no alg", alg, got)
			}
		}
	}
}

func wantStamp(t *testing.T, alg int64, digest uint64, at int64, s impl.Secret) {
	t.Helper()
	got, next, code := impl.MakeStamp(alg, digest, at, s)
	if want := stampBy(s, alg, digest, at); code != 0 || next != goesOn(s) || !sameStamp(got, want) {
		t.Fatal(alg, digest, at, s, "got", got, next, code, "want", want)
	}
}

func wantNoStamp(t *testing.T, want int64, alg int64, digest uint64, at int64, s impl.Secret) {
	t.Helper()
	if got, next, code := impl.MakeStamp(alg, digest, at, s); code != want || !noStamp(got) || next != (impl.Secret{}) {
		t.Error(alg, digest, at, s, "got", got, next, code, "want", want)
	}
}

func TestMakeStamp(t *testing.T) {
	for _, s := range headSecrets() {
		for alg := int64(1); alg <= 9; alg++ {
			for _, at := range []int64{0, 1, 127, 128, impl.MaxTime - 1, impl.MaxTime} {
				for _, digest := range []uint64{0, 1, 1 << 63, math.MaxUint64} {
					wantStamp(t, alg, digest, at, s)
				}
			}
		}
	}
	for _, s := range rightSecrets() {
		wantStamp(t, 5, 7, 9, s)
	}
	for _, s := range append(headSecrets(), impl.Secret{}, usedUp(1)) {
		for _, alg := range append(farNumbers(), 0, 10) {
			wantNoStamp(t, impl.EvForm, alg, 7, 9, s)
		}
		for _, at := range []int64{math.MinInt64, -1, impl.MaxTime + 1, math.MaxInt64} {
			wantNoStamp(t, impl.EvForm, 1, 7, at, s)
		}
	}
	for _, s := range wrongSecrets() {
		wantNoStamp(t, 10+impl.TrKey, 1, 7, 9, s)
	}
	for height := range int64(6) {
		wantNoStamp(t, 10+impl.TrEmpty, 9, 7, 9, usedUp(height))
	}
}

func TestPlainStampsAreSignedAsTold(t *testing.T) {
	first := impl.Stamp{Alg: 1, Digest: 14390390375767358903, At: 100, Key: 4991269664715585943, Sig: []byte{170, 170, 149, 86, 246, 191, 212, 82}}
	second := impl.Stamp{Alg: 2, Digest: 16671854911845656283, At: 200, Key: 3842475799690779081, Sig: []byte{129, 213, 160, 212, 51, 188, 186, 190, 51}}
	chain, _, code := impl.Renew([]byte("doc"), nil, 1, 100, impl.Secret{Scheme: impl.ScGroup, X: 101})
	if code != 0 || !slices.EqualFunc(chain, []impl.Stamp{first}, sameStamp) {
		t.Fatal("the first", chain, code)
	}
	chain, _, code = impl.Renew([]byte("doc"), chain, 2, 200, impl.Secret{Scheme: impl.ScGroup, X: 102})
	if code != 0 || !slices.EqualFunc(chain, []impl.Stamp{first, second}, sameStamp) {
		t.Fatal("the second", chain, code)
	}
	body := []byte{107, 16, 2, 1, 1, 4, 8, 199, 180, 239, 205, 158, 208, 61, 183, 2, 1, 100}
	covered := []byte{100, 111, 99, 108, 36, 2, 1, 1, 4, 8, 199, 180, 239, 205, 158, 208, 61, 183, 2, 1, 100, 4, 8, 69, 68, 141, 80, 175, 142, 57, 151, 4, 8, 170, 170, 149, 86, 246, 191, 212, 82}
	if !bytes.Equal(slowStampBody(first), body) || !bytes.Equal(slowCovered([]byte("doc"), chain[:1]), covered) || impl.DigestBy(2, covered) != second.Digest {
		t.Error("what is signed, or covered")
	}
}

// wantRenewed wants the chain with a stamp of all that is ahead of it.
func wantRenewed(t *testing.T, why string, doc []byte, chain []impl.Stamp, alg int64, at int64, s impl.Secret) []impl.Stamp {
	t.Helper()
	got, next, code := impl.Renew(doc, chain, alg, at, s)
	if want := renewedBy(s, doc, chain, alg, at); code != 0 || next != goesOn(s) || !slices.EqualFunc(got, want, sameStamp) {
		t.Fatal(why, "got", got, next, code, "want", want)
	}
	return got
}

func wantNotRenewed(t *testing.T, why string, want int64, doc []byte, chain []impl.Stamp, alg int64, at int64, s impl.Secret) {
	t.Helper()
	if got, next, code := impl.Renew(doc, chain, alg, at, s); code != want || len(got) != 0 || next != (impl.Secret{}) {
		t.Error(why, len(doc), len(chain), alg, at, s, "got", got, next, code, "want", want)
	}
}

func TestRenew(t *testing.T) {
	for _, size := range []int{0, 1, 64, 3999, 4000} {
		var chain []impl.Stamp
		for i := range 8 {
			for _, s := range headSecrets() {
				wantRenewed(t, "any secret", someText(size), chain, 9, 1000, s)
			}
			chain = wantRenewed(t, "in a row", someText(size), chain, stampAlg(i), stampAt(i), stampSecret(i))
		}
		wantNotRenewed(t, "full", impl.EvForm, someText(size), chain, 1, 1000, secretNo(1))
		wantNotRenewed(t, "full, and no secret", impl.EvForm, someText(size), chain, 1, 1000, impl.Secret{})
		wantNotRenewed(t, "more than full", impl.EvForm, someText(size), slices.Repeat(chain, 500), 1, 1000, secretNo(1))
	}
}

func TestRenewRefuses(t *testing.T) {
	doc := []byte("doc")
	for _, count := range []int{0, 1, 7} {
		chain := plainProving(max(count, 1)).chain[:count]
		for _, s := range append(headSecrets(), impl.Secret{}, usedUp(1)) {
			for _, alg := range append(farNumbers(), 0, 10) {
				wantNotRenewed(t, "alg", impl.EvForm, doc, chain, alg, 1000, s)
			}
			for _, at := range []int64{math.MinInt64, -1, impl.MaxTime + 1, math.MaxInt64} {
				wantNotRenewed(t, "at", impl.EvForm, doc, chain, 1, at, s)
			}
			wantNotRenewed(t, "doc", impl.EvForm, someText(4001), chain, 1, 1000, s)
			wantNotRenewed(t, "a long doc", impl.EvForm, make([]byte, 50000), chain, 1, 1000, s)
		}
		for _, s := range wrongSecrets() {
			wantNotRenewed(t, "a wrong secret", 10+impl.TrKey, doc, chain, 1, 1000, s)
		}
		for height := range int64(6) {
			wantNotRenewed(t, "used up", 10+impl.TrEmpty, doc, chain, 1, 1000, usedUp(height))
		}
		for _, at := range []int64{0, 1, impl.MaxTime} {
			if count == 0 || at > 1 {
				wantRenewed(t, "any time", doc, chain, 1, at, secretNo(1))
			}
		}
	}
}

func TestTheTimeOfANewStamp(t *testing.T) {
	doc := []byte("doc")
	for _, count := range []int{1, 2, 7} {
		chain := plainProving(count).chain
		last := stampAt(count - 1)
		for _, at := range []int64{last, last + 1} {
			wantRenewed(t, "not ahead of the last", doc, chain, 3, at, secretNo(1))
		}
		for _, at := range []int64{last - 1, 0} {
			wantNotRenewed(t, "ahead of the last", impl.EvForm, doc, chain, 3, at, secretNo(1))
			wantNotRenewed(t, "ahead of the last, and no secret", impl.EvForm, doc, chain, 3, at, impl.Secret{})
		}
	}
	// Only the last one's time is asked; the others' EvidenceCheck looks at.
	turned := []impl.Stamp{{Alg: 1, At: 500}, {Alg: 1, At: 100}}
	wantRenewed(t, "the others' times", doc, turned, 3, 100, secretNo(1))
	wantNotRenewed(t, "the last one's time", impl.EvForm, doc, turned, 3, 99, secretNo(1))
	ends := []impl.Stamp{{Alg: 1, At: impl.MaxTime}}
	wantRenewed(t, "at MaxTime", doc, ends, 3, impl.MaxTime, secretNo(1))
}

func TestRenewOfStampsThatAreNotSo(t *testing.T) {
	doc := []byte("doc")
	for _, row := range stampCases() {
		for _, count := range []int{1, 3, 7} {
			for i := range count {
				chain := copyChain(plainProving(count).chain)
				row.change(&chain[i])
				if slowStampOk(chain[i]) != row.right {
					t.Fatal(row.why, "is told wrongly")
				}
				if row.right {
					wantRenewed(t, row.why, doc, chain, 3, impl.MaxTime, treeNo(1))
					continue
				}
				for _, s := range []impl.Secret{secretNo(1), {}, usedUp(0)} {
					wantNotRenewed(t, row.why, impl.EvForm, doc, chain, 3, impl.MaxTime, s)
				}
			}
		}
	}
}

// What a stamp covers has all that is ahead of it in it: whatever is bent there gives another digest.
func TestWhatANewStampCovers(t *testing.T) {
	p := plainProving(3)
	seen := map[uint64]int{}
	add := func(doc []byte, chain []impl.Stamp) {
		got := wantRenewed(t, "bent", doc, chain, 5, impl.MaxTime, secretNo(1))
		seen[got[len(got)-1].Digest]++
	}
	add(p.doc, p.chain)
	add([]byte("dod"), p.chain)
	add(nil, p.chain)
	add(p.doc, nil)
	add(p.doc, p.chain[:2])
	add(p.doc, p.chain[1:])
	changes := []func(x *impl.Stamp){
		func(x *impl.Stamp) { x.Alg = 9 }, func(x *impl.Stamp) { x.Digest++ }, func(x *impl.Stamp) { x.At++ }, func(x *impl.Stamp) { x.Key++ },
		func(x *impl.Stamp) { x.Sig = nil }, func(x *impl.Stamp) { x.Sig[0] ^= 1 }, func(x *impl.Stamp) { x.Sig = append(x.Sig, 0) },
	}
	for i := range p.chain {
		for _, change := range changes {
			chain := copyChain(p.chain)
			change(&chain[i])
			add(p.doc, chain)
		}
	}
	if len(seen) != 6+3*len(changes) {
		t.Error("alike", len(seen), seen)
	}
}

func TestEvidenceOfEachLength(t *testing.T) {
	for count := 1; count <= 8; count++ {
		p := plainProving(count)
		wantProof(t, "as it is", p, 0, 0)
		for _, now := range []int64{stampAt(count - 1), stampAt(count-1) + 1, impl.MaxTime} {
			wantProof(t, "now", changedProving(p, func(p *proving) { p.now = now }), 0, 0)
		}
		wantProof(t, "now is ahead of the last", changedProving(p, func(p *proving) { p.now = stampAt(count-1) - 1 }), impl.EvOrder, count-1)
		wantProof(t, "now is ahead of the first", changedProving(p, func(p *proving) { p.now = stampAt(0) - 1 }), impl.EvOrder, 0)
		wantProof(t, "without keys", changedProving(p, func(p *proving) { p.keys = nil }), impl.EvKey, 0)
	}
}

func TestEvidenceThatIsNoEvidence(t *testing.T) {
	p := plainProving(3)
	form := func(why string, right bool, change func(p *proving)) {
		t.Helper()
		q := changedProving(p, change)
		code, at := q.check()
		if want, _ := q.slowCheck(); right != (code != impl.EvForm) || code != want || code == impl.EvForm && at != 0 {
			t.Error(why, "got", code, at)
		}
	}
	long := func(size int) func(p *proving) {
		return func(p *proving) { p.doc = someText(size); p.madeAnew(0) }
	}
	wantProof(t, "a doc of MaxContent", changedProving(p, long(4000)), 0, 0)
	wantProof(t, "a doc of one more", changedProving(p, long(4001)), impl.EvForm, 0)
	wantProof(t, "a long doc", changedProving(p, long(50000)), impl.EvForm, 0)
	wantProof(t, "no doc", changedProving(p, long(0)), 0, 0)
	wantProof(t, "no stamps", changedProving(p, func(p *proving) { p.chain = nil }), impl.EvForm, 0)
	wantProof(t, "one more stamp than may be", plainProving(9), impl.EvForm, 0)
	wantProof(t, "many stamps", changedProving(p, func(p *proving) { p.chain = slices.Repeat(p.chain, 1000) }), impl.EvForm, 0)
	for _, now := range []int64{math.MinInt64, -1, impl.MaxTime + 1, math.MaxInt64} {
		wantProof(t, "now is no time", changedProving(p, func(p *proving) { p.now = now }), impl.EvForm, 0)
	}
	for _, count := range []int{0, 16, 17, 18, 4000} {
		keys := func(p *proving) { p.keys = append(p.keys, slices.Repeat([]impl.Pub{pubNo(9)}, count)...) }
		weak := func(p *proving) { p.weak = slices.Repeat([]impl.Weak{{Alg: 9}}, count+3) }
		want := int64(0)
		if count+3 > 20 {
			want = impl.EvForm
		}
		wantProof(t, "keys", changedProving(p, keys), want, 0)
		wantProof(t, "weak ones", changedProving(p, weak), want, 0)
	}
	for _, row := range stampCases() {
		for i := range 3 {
			form(row.why, row.right, func(p *proving) { row.change(&p.chain[i]) })
		}
	}
	wantProof(t, "nothing", proving{}, impl.EvForm, 0)
}

// stampBreakers are the faults that a stamp may have by itself; each leaves those ahead of it as they are.
func stampBreakers() []struct {
	why   string
	code  int64
	spoil func(p *proving, i int)
} {
	return []struct {
		why   string
		code  int64
		spoil func(p *proving, i int)
	}{
		{"above now", impl.EvOrder, func(p *proving, i int) { p.chain[i].At = p.now + 1; p.madeAnew(i) }},
		{"another digest", impl.EvDigest, func(p *proving, i int) {
			x := p.chain[i]
			p.chain[i] = stampBy(stampSecret(i), x.Alg, x.Digest^1, x.At)
		}},
		{"a key that is not there", impl.EvKey, func(p *proving, i int) {
			p.keys = slices.DeleteFunc(p.keys, func(k impl.Pub) bool { return k == pubOfSecret(stampSecret(i)) })
		}},
		{"a bent Sig", impl.EvSig, func(p *proving, i int) { p.chain[i].Sig[0] ^= 1 }},
		{"a weak alg", impl.EvWeak, func(p *proving, i int) { p.weak = append(p.weak, impl.Weak{Alg: p.chain[i].Alg}) }},
	}
}

func TestEachCodeOfEvidenceAtEachStamp(t *testing.T) {
	for count := 1; count <= 8; count++ {
		for i := range count {
			for _, b := range stampBreakers() {
				wantProof(t, b.why, changedProving(plainProving(count), func(p *proving) { b.spoil(p, i) }), b.code, i)
			}
		}
	}
}

func TestTwoFaultsOfEvidence(t *testing.T) {
	list := stampBreakers()
	for i := range 3 {
		for j := range 3 {
			for a := range list {
				for b := range list {
					// Which fault is left where one makes the other's stamp anew, the slow reading says.
					p := changedProving(plainProving(3), func(p *proving) { list[a].spoil(p, i) })
					p = changedProving(p, func(p *proving) { list[b].spoil(p, j) })
					code, at := p.slowCheck()
					wantProof(t, list[a].why+" and "+list[b].why, p, code, int(at))
					if i < j && int(at) > i || i != j && code == 0 {
						t.Error(list[a].why, i, list[b].why, j, "got", code, at)
					}
				}
			}
		}
	}
}

// All faults that a stamp can have at once: the one that is told first counts.
func TestEvidenceTellsTheFirstFault(t *testing.T) {
	for _, at := range []int{0, 1, 2} {
		for mask := range 32 {
			p := changedProving(plainProving(3), func(*proving) {})
			want := int64(0)
			x := p.chain[at]
			if mask&1 != 0 {
				x.At = p.now + 1
			}
			if mask&2 != 0 {
				x.Digest++
			}
			p.chain[at] = stampBy(stampSecret(at), x.Alg, x.Digest, x.At)
			if mask&8 != 0 {
				p.chain[at].Sig[0] ^= 1
			}
			if mask&4 != 0 {
				p.keys = slices.Delete(p.keys, at, at+1)
			}
			if mask&16 != 0 {
				p.weak = []impl.Weak{{Key: x.Key}}
			}
			for bit := range 5 {
				if want == 0 && mask>>bit&1 == 1 {
					want = int64(bit) + impl.EvOrder
				}
			}
			if want == 0 {
				continue
			}
			wantProof(t, "many faults", p, want, at)
		}
	}
}

func TestTheOrderOfStamps(t *testing.T) {
	p := plainProving(3)
	moved := func(i int, at int64) proving {
		return changedProving(p, func(p *proving) { p.chain[i].At = at; p.madeAnew(i) })
	}
	for i := 1; i < 3; i++ {
		wantProof(t, "at the time of the one ahead", moved(i, stampAt(i-1)), 0, 0)
		wantProof(t, "a second ahead of that", moved(i, stampAt(i-1)-1), impl.EvOrder, i)
		wantProof(t, "at 0", moved(i, 0), impl.EvOrder, i)
	}
	wantProof(t, "the second at the time of the third", moved(1, stampAt(2)), 0, 0)
	wantProof(t, "the second behind the third", moved(1, stampAt(2)+1), impl.EvOrder, 2)
	wantProof(t, "the first at 0", moved(0, 0), 0, 0)
	wantProof(t, "the last at now", moved(2, p.now), 0, 0)
	wantProof(t, "the last behind now", moved(2, p.now+1), impl.EvOrder, 2)
	all := changedProving(p, func(p *proving) {
		p.chain[0].At, p.chain[1].At, p.chain[2].At, p.now = 7, 7, 7, 7
		p.madeAnew(0)
	})
	wantProof(t, "all at once", all, 0, 0)
	wantProof(t, "all at once, weak then", changedProving(all, func(p *proving) { p.weak = []impl.Weak{{Alg: 2, At: 7}} }), impl.EvWeak, 1)
	wantProof(t, "all at once, weak later", changedProving(all, func(p *proving) { p.weak = []impl.Weak{{Alg: 2, At: 8}} }), 0, 0)
}

func TestWhenAStampIsWeak(t *testing.T) {
	for count := 1; count <= 4; count++ {
		p := plainProving(count)
		for i := range count {
			until := p.now
			if i+1 < count {
				until = stampAt(i + 1)
			}
			key, other := p.chain[i].Key, impl.KeyId(pubNo(99))
			weaks := []struct {
				why string
				w   impl.Weak
				of  bool
			}{
				{"its Alg", impl.Weak{Alg: stampAlg(i)}, true}, {"its Key", impl.Weak{Key: key}, true}, {"both", impl.Weak{Alg: stampAlg(i), Key: key}, true},
				{"its Alg, and another Key", impl.Weak{Alg: stampAlg(i), Key: other}, true}, {"its Key, and another Alg", impl.Weak{Alg: 9, Key: key}, true},
				{"neither", impl.Weak{}, false}, {"another Alg", impl.Weak{Alg: 9}, false}, {"another Key", impl.Weak{Key: other}, false}, {"others both", impl.Weak{Alg: 9, Key: other}, false},
				{"no such Alg", impl.Weak{Alg: -1}, false}, {"its Alg as Key", impl.Weak{Key: uint64(stampAlg(i))}, false},
			}
			for _, row := range weaks {
				for _, at := range []int64{math.MinInt64, -1, 0, stampAt(i), until - 1, until, until + 1, impl.MaxTime, math.MaxInt64} {
					row.w.At = at
					code, place := int64(0), 0
					if row.of && at <= until {
						code, place = impl.EvWeak, i
					}
					with := changedProving(p, func(p *proving) { p.weak = []impl.Weak{row.w} })
					wantProof(t, row.why, with, code, place)
					with.weak = append([]impl.Weak{{}, {Alg: 9, At: 0}, {Key: other}}, row.w)
					wantProof(t, row.why+", behind others", with, code, place)
				}
			}
		}
	}
}

// A stamp that is made in time stands for what is ahead of it; what is weak earlier is told, also where it is told twice.
func TestTheLeastTimeOfWhatIsWeakCounts(t *testing.T) {
	p := plainProving(2)
	late, early := impl.Weak{Alg: 1, At: 201}, impl.Weak{Alg: 1, At: 200}
	wantProof(t, "late alone", changedProving(p, func(p *proving) { p.weak = []impl.Weak{late, late} }), 0, 0)
	wantProof(t, "late first", changedProving(p, func(p *proving) { p.weak = []impl.Weak{late, early} }), impl.EvWeak, 0)
	wantProof(t, "early first", changedProving(p, func(p *proving) { p.weak = []impl.Weak{early, late} }), impl.EvWeak, 0)
	full := slices.Repeat([]impl.Weak{late}, 19)
	wantProof(t, "the last of twenty", changedProving(p, func(p *proving) { p.weak = append(full, early) }), impl.EvWeak, 0)
	wantProof(t, "one more", changedProving(p, func(p *proving) { p.weak = append(full, late, early) }), impl.EvForm, 0)
	// The second one is of an Alg that the first one is not of, and the other way round.
	wantProof(t, "both weak", changedProving(p, func(p *proving) { p.weak = []impl.Weak{{Alg: 2, At: 250}, {Alg: 1, At: 150}} }), impl.EvWeak, 0)
	wantProof(t, "the second weak", changedProving(p, func(p *proving) { p.weak = []impl.Weak{{Alg: 2, At: 250}, {Alg: 1, At: 250}} }), impl.EvWeak, 1)
}

func TestKeysOfEvidence(t *testing.T) {
	p := plainProving(3)
	keys := func(keys ...impl.Pub) proving { return changedProving(p, func(p *proving) { p.keys = keys }) }
	wantProof(t, "twice", keys(slices.Repeat(p.keys, 6)...), 0, 0)
	wantProof(t, "in another order", keys(p.keys[2], p.keys[0], p.keys[1]), 0, 0)
	wantProof(t, "some that are none", keys(append([]impl.Pub{{}, {Scheme: -1}}, p.keys...)...), 0, 0)
	another := changedProving(p, func(p *proving) { p.chain[2].Key = p.chain[0].Key })
	wantProof(t, "signed by another", another, impl.EvSig, 2)
	for i, twin := range twinKeys() {
		own := pubOfSecret(twin.secret)
		chain := renewedBy(twin.secret, p.doc, p.chain, 7, 340)
		with := func(more ...impl.Pub) proving {
			return changedProving(p, func(p *proving) { p.chain, p.keys = chain, append(p.keys, more...) })
		}
		if impl.KeyId(own) != impl.KeyId(twin.other) {
			t.Fatal("no twins", i)
		}
		wantProof(t, "its own Pub", with(own), 0, 0)
		wantProof(t, "its own Pub first", with(own, twin.other), 0, 0)
		wantProof(t, "the other Pub", with(twin.other), impl.EvSig, 3)
		wantProof(t, "the other Pub first", with(twin.other, own), impl.EvSig, 3)
	}
}

// Whatever is bent in a chain, or in what it is of, it shows nothing any more.
func TestEvidenceOfWhichSomethingIsBent(t *testing.T) {
	changes := []struct {
		why    string
		code   int64
		change func(x *impl.Stamp)
	}{
		{"Alg", impl.EvDigest, func(x *impl.Stamp) { x.Alg = 9 }}, {"Digest", impl.EvDigest, func(x *impl.Stamp) { x.Digest ^= 1 << 63 }}, {"At", impl.EvSig, func(x *impl.Stamp) { x.At++ }},
		{"At earlier", impl.EvSig, func(x *impl.Stamp) { x.At-- }}, {"Key", impl.EvKey, func(x *impl.Stamp) { x.Key ^= 1 }}, {"Sig", impl.EvSig, func(x *impl.Stamp) { x.Sig[0] ^= 2 }},
		{"Sig longer", impl.EvSig, func(x *impl.Stamp) { x.Sig = append(x.Sig, 0) }}, {"no Sig", impl.EvSig, func(x *impl.Stamp) { x.Sig = nil }},
	}
	for count := 1; count <= 5; count++ {
		for i := range count {
			for _, row := range changes {
				wantProof(t, row.why, changedProving(plainProving(count), func(p *proving) { row.change(&p.chain[i]) }), row.code, i)
			}
		}
		p := plainProving(count)
		for at := range p.doc {
			for bit := range 8 {
				wantProof(t, "doc", changedProving(p, func(p *proving) { p.doc[at] ^= 1 << bit }), impl.EvDigest, 0)
			}
		}
		wantProof(t, "a longer doc", changedProving(p, func(p *proving) { p.doc = append(p.doc, 0) }), impl.EvDigest, 0)
		for i := 1; i < count; i++ {
			wantProof(t, "without the first ones", changedProving(p, func(p *proving) { p.chain = p.chain[i:] }), impl.EvDigest, 0)
			wantProof(t, "without one", changedProving(p, func(p *proving) { p.chain = slices.Delete(p.chain, i-1, i) }), impl.EvDigest, i-1)
			wantProof(t, "without the last ones", changedProving(p, func(p *proving) { p.chain = p.chain[:i] }), 0, 0)
		}
	}
	// A stamp is no evidence of what covers it, and a message's signature is none of a stamp.
	p := plainProving(1)
	wantProof(t, "signed as something else", changedProving(p, func(p *proving) {
		p.chain[0].Sig = slowBytes(stampSecret(0), slowCoveredStamp(p.chain[0]))
	}), impl.EvSig, 0)
}

func TestWhatIsRenewedInTimeStaysShown(t *testing.T) {
	p := proving{doc: []byte("to be kept")}
	for i := range 8 {
		chain, _, code := impl.Renew(p.doc, p.chain, stampAlg(i), stampAt(i), stampSecret(i))
		if code != 0 {
			t.Fatal(i, code)
		}
		p.chain, p.keys, p.now = chain, append(p.keys, pubOfSecret(stampSecret(i))), stampAt(i)
		// All that is ahead grows weak, each just behind the stamp that stands for it.
		wantProof(t, "as soon as it is renewed", p, 0, 0)
		wantProof(t, "later", changedProving(p, func(p *proving) { p.now = impl.MaxTime }), 0, 0)
		p.weak = append(p.weak, impl.Weak{Alg: stampAlg(i), Key: p.chain[i].Key, At: stampAt(i+1) + 1})
		wantProof(t, "until it is weak", changedProving(p, func(p *proving) { p.now = stampAt(i + 1) }), 0, 0)
		wantProof(t, "when it is weak", changedProving(p, func(p *proving) { p.now = stampAt(i+1) + 1 }), impl.EvWeak, i)
		late, _, code := impl.Renew(p.doc, p.chain, 9, stampAt(i+1)+1, secretNo(50))
		if i < 7 {
			if code != 0 {
				t.Fatal(i, code)
			}
			wantProof(t, "renewed too late", changedProving(p, func(p *proving) {
				p.chain, p.keys, p.now = late, append(p.keys, pubNo(50)), impl.MaxTime
			}), impl.EvWeak, i)
		}
	}
}

func TestEvidenceOfAnyChain(t *testing.T) {
	r := rand.New(rand.NewSource(181))
	seen := map[int64]int{}
	for range 6000 {
		p := anyProving(r)
		code, at := p.slowCheck()
		wantProof(t, "any", p, code, int(at))
		seen[code]++
		if code > impl.EvForm && at > 0 {
			seen[10+code]++
		}
	}
	for code := range int64(7) {
		if seen[code] < 30 || code > impl.EvForm && seen[10+code] < 20 {
			t.Error("too few of", code, seen)
		}
	}
}
