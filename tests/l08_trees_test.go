package tests

import (
	"bytes"
	"encoding/binary"
	"math"
	"math/rand"
	"slices"
	"strconv"
	"strings"
	"testing"

	"loop.example/g00041/impl"
)

func eight(digest uint64) []byte { return binary.BigEndian.AppendUint64(nil, digest) }

// wordHash is HashAll of a word's bytes and the eight bytes of each digest.
func wordHash(word string, digests ...uint64) uint64 {
	parts := [][]byte{[]byte(word)}
	for _, digest := range digests {
		parts = append(parts, eight(digest))
	}
	return impl.HashAll(parts)
}

// slowEnd is the start of a leaf's digit, stepped so many times.
func slowEnd(seed uint64, leaf int64, digit int64, steps int64) uint64 {
	v := impl.HashAll([][]byte{[]byte("start"), eight(seed), impl.PutNum(leaf), impl.PutNum(digit)})
	for range steps {
		v = impl.Hash(eight(v))
	}
	return v
}

func slowLeaf(seed uint64, leaf int64) uint64 {
	var ends []uint64
	for digit := range int64(18) {
		ends = append(ends, slowEnd(seed, leaf, digit, 15))
	}
	return wordHash("leaf", ends...)
}

// slowNode is what stands above 2 to the height leaves, from the leaf first on.
func slowNode(seed uint64, height int64, first int64) uint64 {
	if height == 0 {
		return slowLeaf(seed, first)
	}
	half := int64(1) << (height - 1)
	return wordHash("node", slowNode(seed, height-1, first), slowNode(seed, height-1, first+half))
}

// slowDigits are the digits of a message, read from its digest as people write it.
func slowDigits(msg []byte) []int64 {
	text := strconv.FormatUint(impl.Hash(msg), 16)
	text = strings.Repeat("0", 16-len(text)) + text
	sum := int64(0)
	var out []int64
	for i := range text {
		digit, _ := strconv.ParseInt(text[i:i+1], 16, 64)
		out = append(out, digit)
		sum += 15 - digit
	}
	return append(out, sum/16, sum%16)
}

func slowSig(k impl.TreeKey, msg []byte) impl.TreeSig {
	out := impl.TreeSig{Leaf: k.Next}
	for i, digit := range slowDigits(msg) {
		out.Ends = append(out.Ends, slowEnd(k.Seed, k.Next, int64(i), digit))
	}
	for height := range k.Height {
		beside := k.Next>>height ^ 1
		out.Path = append(out.Path, slowNode(k.Seed, height, beside<<height))
	}
	return out
}

func sameTreeSig(a impl.TreeSig, b impl.TreeSig) bool {
	return a.Leaf == b.Leaf && slices.Equal(a.Ends, b.Ends) && slices.Equal(a.Path, b.Path)
}

func noTreeSig(s impl.TreeSig) bool { return s.Leaf == 0 && len(s.Ends) == 0 && len(s.Path) == 0 }

var someSeeds = []uint64{0, 1, 7, 1 << 63, math.MaxUint64, 0x0102030405060708}

// wrongTreeKeys are keys of a seed that are not right.
func wrongTreeKeys(seed uint64) []impl.TreeKey {
	list := []impl.TreeKey{
		{Height: -1}, {Height: -1, Next: 1}, {Height: 6}, {Height: 6, Next: 1}, {Height: 64}, {Height: math.MinInt64}, {Height: math.MaxInt64},
	}
	for height := range int64(6) {
		for _, next := range []int64{math.MinInt64, -1, 1<<height + 1, math.MaxInt64} {
			list = append(list, impl.TreeKey{Height: height, Next: next})
		}
	}
	for i := range list {
		list[i].Seed = seed
	}
	return list
}

func TestTreeRoot(t *testing.T) {
	if impl.MaxHeight != 5 || impl.TrKey != 1 || impl.TrEmpty != 2 || impl.ScGroup != 1 || impl.ScTree != 2 {
		t.Error("constants")
	}
	for _, seed := range someSeeds {
		for height := range int64(6) {
			want := slowNode(seed, height, 0)
			for next := range 1<<height + int64(1) {
				if got, ok := impl.TreeRoot(impl.TreeKey{Seed: seed, Height: height, Next: next}); !ok || got != want {
					t.Fatal(seed, height, next, "got", got, ok, "want", want)
				}
			}
		}
		for _, k := range wrongTreeKeys(seed) {
			if got, ok := impl.TreeRoot(k); ok || got != 0 {
				t.Error(k, "got", got, ok)
			}
		}
	}
	if got, _ := impl.TreeRoot(impl.TreeKey{Seed: 7, Height: 1}); got != 5355405176248710068 {
		t.Error("the seed 7, two leaves", got)
	}
}

func TestRootsAreUnlike(t *testing.T) {
	seen := map[uint64]impl.TreeKey{}
	for _, seed := range someSeeds {
		for height := range int64(6) {
			k := impl.TreeKey{Seed: seed, Height: height}
			root, _ := impl.TreeRoot(k)
			if other, ok := seen[root]; ok {
				t.Error("one root of", k, other)
			}
			seen[root] = k
		}
	}
}

func TestATreeKeySignsWithEachLeafOnceAndThenNoMore(t *testing.T) {
	r := rand.New(rand.NewSource(81))
	for _, seed := range someSeeds {
		for height := range int64(6) {
			k := impl.TreeKey{Seed: seed, Height: height}
			root, _ := impl.TreeRoot(k)
			for leaf := range int64(1) << height {
				msg := anyMsg(r)
				s, next, code := impl.TreeSign(k, msg)
				if code != 0 || s.Leaf != leaf || next != (impl.TreeKey{Seed: seed, Height: height, Next: leaf + 1}) || !sameTreeSig(s, slowSig(k, msg)) {
					t.Fatal(k, msg, "got", s, next, code)
				}
				if !impl.TreeVerify(root, height, msg, s) || impl.TreeVerify(root, height, append(msg, 0), s) {
					t.Fatal("not taken, or of another text:", k, msg)
				}
				if now, ok := impl.TreeRoot(next); !ok || now != root {
					t.Fatal("the root is another behind", k)
				}
				k = next
			}
			for range 2 {
				if s, next, code := impl.TreeSign(k, []byte("more")); code != impl.TrEmpty || next != k || !noTreeSig(s) {
					t.Fatal("used up:", k, "got", s, next, code)
				}
			}
		}
		for _, k := range wrongTreeKeys(seed) {
			if s, next, code := impl.TreeSign(k, []byte("m")); code != impl.TrKey || next != (impl.TreeKey{}) || !noTreeSig(s) {
				t.Error(k, "got", s, next, code)
			}
		}
	}
}

func TestTreesSignAnyText(t *testing.T) {
	r := rand.New(rand.NewSource(82))
	k := impl.TreeKey{Seed: 99, Height: 2, Next: 2}
	root, _ := impl.TreeRoot(k)
	texts := [][]byte{nil, {}, {0}, {0, 0}, {255}, bytes.Repeat([]byte{1}, 5000)}
	for range 300 {
		texts = append(texts, anyMsg(r))
	}
	for i, msg := range texts {
		s, _, code := impl.TreeSign(k, msg)
		if code != 0 || !sameTreeSig(s, slowSig(k, msg)) || !impl.TreeVerify(root, 2, msg, s) {
			t.Fatal(msg, "got", s, code)
		}
		if other := texts[(i+1)%len(texts)]; !bytes.Equal(other, msg) && impl.TreeVerify(root, 2, other, s) {
			t.Fatal("taken of", other, "signed", msg)
		}
	}
}

func copyTreeSig(s impl.TreeSig) impl.TreeSig {
	return impl.TreeSig{Leaf: s.Leaf, Ends: slices.Clone(s.Ends), Path: slices.Clone(s.Path)}
}

// bentLists are a list of digests with one turned, left out, doubled, or two changed with one another.
func bentLists(list []uint64) [][]uint64 {
	out := [][]uint64{append(slices.Clone(list), 0), append([]uint64{0}, list...)}
	if len(list) > 0 {
		out = append(out, slices.Repeat(list, 2))
	}
	for i := range list {
		for _, bit := range []int{0, 31, 63} {
			turned := slices.Clone(list)
			turned[i] ^= 1 << bit
			out = append(out, turned)
		}
		stepped := slices.Clone(list)
		stepped[i] = impl.Hash(eight(list[i]))
		out = append(out, stepped, slices.Delete(slices.Clone(list), i, i+1), slices.Insert(slices.Clone(list), i, list[i]), list[:i])
		if i > 0 {
			changed := slices.Clone(list)
			changed[i], changed[i-1] = list[i-1], list[i]
			out = append(out, changed)
		}
	}
	return out
}

func TestTreeSignaturesThatAreBent(t *testing.T) {
	msg := []byte("what was signed")
	for height := range int64(6) {
		for _, leaf := range []int64{0, 1<<height - 1, 1 << height / 2} {
			k := impl.TreeKey{Seed: 5, Height: height, Next: leaf}
			root, _ := impl.TreeRoot(k)
			s, _, _ := impl.TreeSign(k, msg)
			for _, ends := range bentLists(s.Ends) {
				if impl.TreeVerify(root, height, msg, impl.TreeSig{Leaf: leaf, Ends: ends, Path: s.Path}) {
					t.Error("taken with the ends", ends)
				}
			}
			for _, path := range bentLists(s.Path) {
				if impl.TreeVerify(root, height, msg, impl.TreeSig{Leaf: leaf, Ends: s.Ends, Path: path}) {
					t.Error("taken with the path", path)
				}
			}
			if impl.TreeVerify(root, height, msg, impl.TreeSig{}) || impl.TreeVerify(root, height, msg, impl.TreeSig{Leaf: leaf, Path: s.Path}) {
				t.Error("taken without ends")
			}
			for bit := range 64 {
				if impl.TreeVerify(root^1<<bit, height, msg, s) {
					t.Error("taken with another root, bit", bit)
				}
			}
		}
	}
}

func TestTreeSignaturesOfOtherLeavesAndHeights(t *testing.T) {
	msg := []byte("m")
	for height := range int64(6) {
		count := int64(1) << height
		for leaf := range count {
			k := impl.TreeKey{Seed: 5, Height: height, Next: leaf}
			root, _ := impl.TreeRoot(k)
			s, _, _ := impl.TreeSign(k, msg)
			leaves := []int64{math.MinInt64, leaf - count, -1, count, leaf + count, leaf + 32, leaf + 1<<32, math.MaxInt64 - leaf}
			for other := range count {
				leaves = append(leaves, other)
			}
			for _, other := range leaves {
				turned := copyTreeSig(s)
				turned.Leaf = other
				if got := impl.TreeVerify(root, height, msg, turned); got != (other == leaf) {
					t.Error("height", height, "leaf", leaf, "told as", other, got)
				}
			}
			for _, other := range []int64{math.MinInt64, -1, 0, 1, 2, 3, 4, 5, 6, 64, math.MaxInt64} {
				if got := impl.TreeVerify(root, other, msg, s); got != (other == height) {
					t.Error("height", height, "leaf", leaf, "for the height", other, got)
				}
			}
		}
	}
}

// What is signed under a tree that is one higher than may be is right but for that.
func TestTreesThatAreTooHigh(t *testing.T) {
	k := impl.TreeKey{Seed: 3, Height: 6, Next: 9}
	root := slowNode(3, 6, 0)
	if impl.TreeVerify(root, 6, []byte("m"), slowSig(k, []byte("m"))) {
		t.Error("taken with the height 6")
	}
	sig := impl.PutNum(9)
	s := slowSig(k, []byte("m"))
	for _, digest := range append(slices.Clone(s.Ends), s.Path...) {
		sig = append(sig, eight(digest)...)
	}
	if impl.VerifyAny(impl.Pub{Scheme: impl.ScTree, Y: root, Height: 6}, []byte("m"), sig) {
		t.Error("taken as bytes with the height 6")
	}
}

// rightSecrets are Secrets of both schemes, not used up.
func rightSecrets() []impl.Secret {
	list := []impl.Secret{{Scheme: impl.ScGroup, X: 1}, {Scheme: impl.ScGroup, X: 5}, {Scheme: impl.ScGroup, X: impl.Q - 1}}
	for height := range int64(6) {
		for _, next := range []int64{0, 1<<height - 1} {
			list = append(list, impl.Secret{Scheme: impl.ScTree, X: 7, Height: height, Next: next})
		}
	}
	return append(list, impl.Secret{Scheme: impl.ScTree}, impl.Secret{Scheme: impl.ScTree, X: math.MaxUint64, Height: 2})
}

func wrongSecrets() []impl.Secret {
	list := []impl.Secret{{}, {X: 5}, {Scheme: -1, X: 5}, {Scheme: 3, X: 5}, {Scheme: math.MaxInt64, X: 5}, {Scheme: math.MinInt64, X: 5}}
	for _, x := range []uint64{0, impl.Q, impl.Q + 1, impl.P, 1<<32 + 5, 1 << 63, 1<<63 + 5, math.MaxUint64} {
		list = append(list, impl.Secret{Scheme: impl.ScGroup, X: x})
	}
	for _, n := range []int64{math.MinInt64, -1, 1, 5, math.MaxInt64} {
		list = append(list, impl.Secret{Scheme: impl.ScGroup, X: 5, Height: n}, impl.Secret{Scheme: impl.ScGroup, X: 5, Next: n}, impl.Secret{Scheme: impl.ScGroup, X: 5, Height: n, Next: n})
	}
	for _, k := range wrongTreeKeys(7) {
		list = append(list, impl.Secret{Scheme: impl.ScTree, X: k.Seed, Height: k.Height, Next: k.Next})
	}
	return list
}

func TestPubOf(t *testing.T) {
	for _, s := range rightSecrets() {
		want := impl.Pub{Scheme: impl.ScGroup, Y: uint64(impl.KeyOf(int64(s.X)))}
		if s.Scheme == impl.ScTree {
			want = impl.Pub{Scheme: impl.ScTree, Y: slowNode(s.X, s.Height, 0), Height: s.Height}
		}
		if p, ok := impl.PubOf(s); !ok || p != want {
			t.Error(s, "got", p, ok, "want", want)
		}
	}
	for height := range int64(6) {
		fresh, _ := impl.PubOf(impl.Secret{Scheme: impl.ScTree, X: 7, Height: height})
		if p, ok := impl.PubOf(impl.Secret{Scheme: impl.ScTree, X: 7, Height: height, Next: 1 << height}); !ok || p != fresh {
			t.Error("used up, height", height, p, ok)
		}
	}
	for _, s := range wrongSecrets() {
		if p, ok := impl.PubOf(s); ok || p != (impl.Pub{}) {
			t.Error(s, "got", p, ok)
		}
	}
}

// slowBytes is the signature of a right Secret as bytes, by the document's words.
func slowBytes(s impl.Secret, msg []byte) []byte {
	if s.Scheme == impl.ScGroup {
		sig, _ := impl.Sign(int64(s.X), msg)
		return append(impl.PutNum(sig.E), impl.PutNum(sig.S)...)
	}
	sig := slowSig(impl.TreeKey{Seed: s.X, Height: s.Height, Next: s.Next}, msg)
	out := impl.PutNum(sig.Leaf)
	for _, digest := range append(sig.Ends, sig.Path...) {
		out = append(out, eight(digest)...)
	}
	return out
}

func TestSignAny(t *testing.T) {
	for _, s := range rightSecrets() {
		p, _ := impl.PubOf(s)
		for _, msg := range [][]byte{nil, {0}, []byte("hi"), bytes.Repeat([]byte{3}, 700)} {
			want := s
			if s.Scheme == impl.ScTree {
				want.Next++
			}
			sig, next, code := impl.SignAny(s, msg)
			if code != 0 || next != want || !bytes.Equal(sig, slowBytes(s, msg)) {
				t.Error(s, msg, "got", sig, next, code)
			}
			if !impl.VerifyAny(p, msg, sig) || impl.VerifyAny(p, append(bytes.Clone(msg), 0), sig) {
				t.Error("not taken, or of another text:", s, msg)
			}
		}
	}
	for _, s := range wrongSecrets() {
		if sig, next, code := impl.SignAny(s, []byte("hi")); code != impl.TrKey || next != (impl.Secret{}) || len(sig) != 0 {
			t.Error(s, "got", sig, next, code)
		}
	}
}

func TestTheKeyStaysAsTheSecretGoesOn(t *testing.T) {
	for _, s := range []impl.Secret{{Scheme: impl.ScGroup, X: 5}, {Scheme: impl.ScTree, X: 9}, {Scheme: impl.ScTree, X: 9, Height: 2}, {Scheme: impl.ScTree, X: 9, Height: 5}} {
		p, _ := impl.PubOf(s)
		was := map[string]int64{}
		for i := range int64(40) {
			sig, next, code := impl.SignAny(s, impl.PutNum(i))
			if used := s.Scheme == impl.ScTree && i >= 1<<s.Height; used {
				if code != impl.TrEmpty || next != s || len(sig) != 0 {
					t.Fatal("used up:", s, "got", sig, next, code)
				}
				continue
			}
			if other, twice := was[string(sig)]; twice || code != 0 || !impl.VerifyAny(p, impl.PutNum(i), sig) {
				t.Fatal(s, i, "got", sig, code, "and ahead", other, twice)
			}
			was[string(sig)] = i
			if now, ok := impl.PubOf(next); !ok || now != p {
				t.Fatal("another key behind", s, now, ok)
			}
			s = next
		}
	}
}

func TestNoBeginningOfASignatureIsOne(t *testing.T) {
	msg := []byte("hi")
	for _, s := range rightSecrets() {
		p, _ := impl.PubOf(s)
		sig, _, _ := impl.SignAny(s, msg)
		for cut := range sig {
			if impl.VerifyAny(p, msg, sig[:cut]) || impl.VerifyAny(p, msg, sig[cut+1:]) {
				t.Fatal(s, "a part is taken, cut at", cut)
			}
			left := slices.Delete(bytes.Clone(sig), cut, cut+1)
			doubled := slices.Insert(bytes.Clone(sig), cut, sig[cut])
			turned := bytes.Clone(sig)
			turned[cut] ^= 1
			high := bytes.Clone(sig)
			high[cut] ^= 128
			if impl.VerifyAny(p, msg, left) || impl.VerifyAny(p, msg, doubled) || impl.VerifyAny(p, msg, turned) || impl.VerifyAny(p, msg, high) {
				t.Fatal(s, "taken with the byte", cut, "left out, doubled or turned")
			}
		}
		for more := range 256 {
			if impl.VerifyAny(p, msg, append(bytes.Clone(sig), byte(more))) || impl.VerifyAny(p, msg, append([]byte{byte(more)}, sig...)) {
				t.Fatal(s, "taken with a byte more", more)
			}
		}
		if impl.VerifyAny(p, msg, append(bytes.Clone(sig), make([]byte, 8)...)) || impl.VerifyAny(p, msg, append(bytes.Clone(sig), sig...)) || impl.VerifyAny(p, msg, nil) {
			t.Error(s, "taken with eight bytes more, twice, or without bytes")
		}
	}
}

func TestGroupSignaturesInOtherBytes(t *testing.T) {
	p := impl.Pub{Scheme: impl.ScGroup, Y: 1024}
	msg := []byte("hi")
	s, _ := impl.Sign(5, msg)
	sig := func(e []byte, s []byte) []byte { return append(bytes.Clone(e), s...) }
	e, sum := impl.PutNum(s.E), impl.PutNum(s.S)
	if !impl.VerifyAny(p, msg, sig(e, sum)) {
		t.Fatal("not taken")
	}
	for _, other := range [][]byte{
		sig(sum, e), sig(append([]byte{128}, e...), sum), sig(e, append([]byte{128}, sum...)),
		sig(impl.PutNum(s.E+impl.Q), sum), sig(e, impl.PutNum(s.S+impl.Q)), sig(e, impl.PutNum(s.S+impl.Q*18)),
		bytes.Repeat([]byte{255}, 30), {0, 0}, {0}, sig(e, nil), sig(e, bytes.Repeat([]byte{255}, 12)),
	} {
		if impl.VerifyAny(p, msg, other) {
			t.Error("taken:", other)
		}
	}
	limits := []struct {
		msg string
		s   impl.Sig
	}{{"d", impl.Sig{E: 0, S: 20269576}}, {"g", impl.Sig{E: impl.Q - 1, S: 48550346}}, {"d", impl.Sig{E: 77513409, S: 0}}, {"c", impl.Sig{E: 386850348, S: impl.Q - 1}}}
	for _, row := range limits {
		if !impl.VerifyAny(p, []byte(row.msg), sig(impl.PutNum(row.s.E), impl.PutNum(row.s.S))) {
			t.Error("not taken:", row)
		}
	}
}

func TestTreeSignaturesInOtherBytes(t *testing.T) {
	msg := []byte("hi")
	for height := range int64(6) {
		s := impl.Secret{Scheme: impl.ScTree, X: 7, Height: height}
		p, _ := impl.PubOf(s)
		sig, _, _ := impl.SignAny(s, msg)
		rest := sig[1:]
		for _, leaf := range [][]byte{nil, {128}, {128, 0}, {129, 0}, impl.PutNum(1 << height), impl.PutNum(32), impl.PutNum(1 << 40), bytes.Repeat([]byte{255}, 9)} {
			if impl.VerifyAny(p, msg, append(bytes.Clone(leaf), rest...)) {
				t.Error("height", height, "taken with the leaf", leaf)
			}
		}
	}
}

func TestSignaturesForOtherKeys(t *testing.T) {
	msg := []byte("hi")
	secrets := rightSecrets()
	for i, s := range secrets {
		sig, _, _ := impl.SignAny(s, msg)
		own, _ := impl.PubOf(s)
		for k, other := range secrets {
			p, _ := impl.PubOf(other)
			if got := impl.VerifyAny(p, msg, sig); got != (p == own) {
				t.Error("the signature of", i, "with the key of", k, got)
			}
		}
		for _, by := range []int64{-3, -2, -1, 1, 2, 3, math.MaxInt64 - 9} {
			if impl.VerifyAny(impl.Pub{Scheme: own.Scheme + by, Y: own.Y, Height: own.Height}, msg, sig) {
				t.Error("taken with the scheme turned by", by, own)
			}
			if impl.VerifyAny(impl.Pub{Scheme: own.Scheme, Y: own.Y, Height: own.Height + by}, msg, sig) {
				t.Error("taken with the height turned by", by, own)
			}
		}
		if impl.VerifyAny(impl.Pub{Y: own.Y, Height: own.Height}, msg, sig) || impl.VerifyAny(impl.Pub{}, msg, sig) {
			t.Error("taken with no scheme", own)
		}
	}
}

func TestKeysThatAreNotRight(t *testing.T) {
	for k := int64(1); k < 30; k++ {
		msg := impl.PutNum(k)
		for _, y := range noKeys {
			for _, x := range []int64{0, 1, 77} {
				s := forged(x, k, y, msg)
				sig := append(impl.PutNum(s.E), impl.PutNum(s.S)...)
				if impl.VerifyAny(impl.Pub{Scheme: impl.ScGroup, Y: uint64(y)}, msg, sig) {
					t.Error("no key, but taken:", y, "signed by", x)
				}
			}
		}
	}
	sig, _, _ := impl.SignAny(impl.Secret{Scheme: impl.ScGroup, X: 5}, []byte("hi"))
	for _, y := range []uint64{1024 + 1<<32, 1024 + 1<<63, 1024 + impl.P} {
		if impl.VerifyAny(impl.Pub{Scheme: impl.ScGroup, Y: y}, []byte("hi"), sig) {
			t.Error("taken with", y)
		}
	}
}
