package tests

import (
	"bytes"
	"math/rand"
	"slices"
	"testing"

	"loop.example/g00041/impl"
)

func slowDigestBy(alg int64, data []byte) uint64 {
	if !within(alg, 1, 9) {
		return 0
	}
	return impl.HashAll([][]byte{[]byte("alg"), impl.PutNum(alg), data})
}

func slowStampBody(x impl.Stamp) []byte {
	return around(64+32+11, slowNumber(x.Alg), slowText(string(eight(x.Digest))), slowNumber(x.At))
}

func slowCoveredStamp(x impl.Stamp) []byte {
	return around(64+32+12, slowNumber(x.Alg), slowText(string(eight(x.Digest))), slowNumber(x.At), slowText(string(eight(x.Key))), slowText(string(x.Sig)))
}

func slowCovered(doc []byte, chain []impl.Stamp) []byte {
	out := bytes.Clone(doc)
	for _, x := range chain {
		out = append(out, slowCoveredStamp(x)...)
	}
	return out
}

// stampBy signs what is there, whether it is right or not.
func stampBy(s impl.Secret, alg int64, digest uint64, at int64) impl.Stamp {
	x := impl.Stamp{Alg: alg, Digest: digest, At: at, Key: impl.KeyId(pubOfSecret(s))}
	x.Sig = slowBytes(s, slowStampBody(x))
	return x
}

// renewedBy is a chain with one stamp more, whether it is right or not.
func renewedBy(s impl.Secret, doc []byte, chain []impl.Stamp, alg int64, at int64) []impl.Stamp {
	return append(slices.Clone(chain), stampBy(s, alg, slowDigestBy(alg, slowCovered(doc, chain)), at))
}

func sameStamp(a impl.Stamp, b impl.Stamp) bool {
	return a.Alg == b.Alg && a.Digest == b.Digest && a.At == b.At && a.Key == b.Key && bytes.Equal(a.Sig, b.Sig)
}

func noStamp(x impl.Stamp) bool { return sameStamp(x, impl.Stamp{}) }

func copyChain(chain []impl.Stamp) []impl.Stamp {
	chain = slices.Clone(chain)
	for i := range chain {
		chain[i].Sig = bytes.Clone(chain[i].Sig)
	}
	return chain
}

// proving is all that EvidenceCheck is asked with.
type proving struct {
	doc   []byte
	chain []impl.Stamp
	keys  []impl.Pub
	weak  []impl.Weak
	now   int64
}

// stampSecret signs the stamp at a position: every third one is of a tree.
func stampSecret(i int) impl.Secret {
	if i%3 == 2 {
		return treeNo(20 + i)
	}
	return secretNo(20 + i)
}

// stampAt is the time of the stamp at a position: 100, 200 ..
func stampAt(i int) int64 { return int64(100 * (i + 1)) }

// stampAlg is the alg of the stamp at a position: 1, 2 ..
func stampAlg(i int) int64 { return int64(i + 1) }

// plainProving has so many stamps, each of another alg and another key.
func plainProving(count int) proving {
	p := proving{doc: []byte("doc"), now: stampAt(count-1) + 50}
	for i := range count {
		p.chain = renewedBy(stampSecret(i), p.doc, p.chain, stampAlg(i), stampAt(i))
		p.keys = append(p.keys, pubOfSecret(stampSecret(i)))
	}
	return p
}

func changedProving(p proving, change func(p *proving)) proving {
	p.doc, p.chain, p.keys, p.weak = bytes.Clone(p.doc), copyChain(p.chain), slices.Clone(p.keys), slices.Clone(p.weak)
	change(&p)
	return p
}

// madeAnew stamps once more all that stands at a position and behind it, as the stamps there say: with their Alg and At.
func (p *proving) madeAnew(from int) {
	for i := from; i < len(p.chain); i++ {
		x := p.chain[i]
		p.chain = append(renewedBy(stampSecret(i), p.doc, p.chain[:i], x.Alg, x.At), p.chain[i+1:]...)
	}
}

func (p proving) check() (int64, int64) {
	return impl.EvidenceCheck(p.doc, p.chain, p.keys, p.weak, p.now)
}

func slowStampOk(x impl.Stamp) bool {
	return within(x.Alg, 1, 9) && isTimeOf(x.At) && len(x.Sig) <= 500
}

func (p proving) slowFormOk() bool {
	return len(p.doc) <= 4000 && within(int64(len(p.chain)), 1, 8) && !slices.ContainsFunc(p.chain, func(x impl.Stamp) bool { return !slowStampOk(x) }) &&
		len(p.keys) <= 20 && len(p.weak) <= 20 && isTimeOf(p.now)
}

// slowFaults are all faults of the stamp at a position, the first that counts first.
func (p proving) slowFaults(i int) []int64 {
	x, until := p.chain[i], p.now
	if i < len(p.chain)-1 {
		until = p.chain[i+1].At
	}
	var out []int64
	if x.At > p.now || i > 0 && p.chain[i-1].At > x.At {
		out = append(out, impl.EvOrder)
	}
	if x.Digest != slowDigestBy(x.Alg, slowCovered(p.doc, p.chain[:i])) {
		out = append(out, impl.EvDigest)
	}
	known := slices.IndexFunc(p.keys, func(k impl.Pub) bool { return impl.KeyId(k) == x.Key })
	if known < 0 {
		out = append(out, impl.EvKey)
	} else if !impl.VerifyAny(p.keys[known], slowStampBody(x), x.Sig) {
		out = append(out, impl.EvSig)
	}
	for _, w := range p.weak {
		ofAlg, ofKey := w.Alg != 0 && w.Alg == x.Alg, w.Key != 0 && w.Key == x.Key
		if (ofAlg || ofKey) && w.At <= until {
			return append(out, impl.EvWeak)
		}
	}
	return out
}

func (p proving) slowCheck() (int64, int64) {
	if !p.slowFormOk() {
		return impl.EvForm, 0
	}
	for i := range p.chain {
		if faults := p.slowFaults(i); len(faults) > 0 {
			return faults[0], int64(i)
		}
	}
	return 0, 0
}

func wantProof(t *testing.T, why string, p proving, code int64, at int) {
	t.Helper()
	if got, place := p.check(); got != code || place != int64(at) {
		t.Error(why, "got", got, place, "want", code, at)
	}
	if got, place := p.slowCheck(); got != code || place != int64(at) {
		t.Error(why, "the slow reading says", got, place, "want", code, at)
	}
}

// stampCases put a stamp about its limits, in each of its fields.
func stampCases() []struct {
	why    string
	right  bool
	change func(x *impl.Stamp)
} {
	type row = struct {
		why    string
		right  bool
		change func(x *impl.Stamp)
	}
	out := []row{
		{"as it is", true, func(x *impl.Stamp) {}},
		{"Alg 0", false, func(x *impl.Stamp) { x.Alg = 0 }}, {"Alg 1", true, func(x *impl.Stamp) { x.Alg = 1 }}, {"Alg 9", true, func(x *impl.Stamp) { x.Alg = 9 }}, {"Alg 10", false, func(x *impl.Stamp) { x.Alg = 10 }},
		{"At -1", false, func(x *impl.Stamp) { x.At = -1 }}, {"At 0", true, func(x *impl.Stamp) { x.At = 0 }}, {"At MaxTime", true, func(x *impl.Stamp) { x.At = impl.MaxTime }}, {"At past MaxTime", false, func(x *impl.Stamp) { x.At = impl.MaxTime + 1 }},
		{"no Sig", true, func(x *impl.Stamp) { x.Sig = nil }}, {"a Sig of MaxSig", true, func(x *impl.Stamp) { x.Sig = make([]byte, 500) }}, {"a Sig of one more", false, func(x *impl.Stamp) { x.Sig = make([]byte, 501) }}, {"a long Sig", false, func(x *impl.Stamp) { x.Sig = make([]byte, 50000) }},
		{"any Digest", true, func(x *impl.Stamp) { x.Digest = 1<<64 - 1 }}, {"no Digest", true, func(x *impl.Stamp) { x.Digest = 0 }}, {"any Key", true, func(x *impl.Stamp) { x.Key = 1<<64 - 1 }}, {"no Key", true, func(x *impl.Stamp) { x.Key = 0 }},
	}
	for _, n := range farNumbers() {
		out = append(out, row{"a far Alg", false, func(x *impl.Stamp) { x.Alg = n }})
	}
	for _, n := range []int64{-1 << 63, 1<<63 - 1, -2} {
		out = append(out, row{"a far At", false, func(x *impl.Stamp) { x.At = n }})
	}
	return out
}

// anyProving is of a few algs, keys and times, so that much of it holds, and is bent here and there.
func anyProving(r *rand.Rand) proving {
	p := proving{doc: []byte("doc")[:r.Intn(4)]}
	at := int64(1)
	for range 1 + r.Intn(8) {
		at += r.Int63n(3)
		p.chain = renewedBy(secretNo(1+r.Intn(3)), p.doc, p.chain, 1+r.Int63n(4), at)
		if r.Intn(40) == 0 {
			at -= 2
		}
	}
	p.now = at + r.Int63n(4)
	for i := range 4 {
		if r.Intn(25) > 0 {
			p.keys = append(p.keys, pubNo(i))
		}
	}
	for range oneOf(r, 0, 0, 1, 1, 2, 4) {
		w := impl.Weak{Alg: oneOf(r, 0, 1+r.Int63n(4)), At: at - 4 + r.Int63n(9)}
		if r.Intn(2) == 0 {
			w.Key = impl.KeyId(pubNo(1 + r.Intn(3)))
		}
		p.weak = append(p.weak, w)
	}
	if r.Intn(4) == 0 {
		x := &p.chain[r.Intn(len(p.chain))]
		switch r.Intn(6) {
		case 0:
			x.Alg = r.Int63n(11)
		case 1:
			x.Digest++
		case 2:
			x.At--
		case 3:
			x.Key = impl.KeyId(pubNo(r.Intn(6)))
		case 4:
			x.Sig = bytes.Clone(x.Sig)
			x.Sig[0] ^= 1
		default:
			p.doc = []byte("dog")
		}
	}
	return p
}
