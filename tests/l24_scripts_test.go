package tests

import (
	"math/rand"
	"strconv"
	"strings"
	"testing"

	"loop.example/g00041/impl"
)

func TestScriptConstants(t *testing.T) {
	if impl.MaxScript != 60 {
		t.Error(impl.MaxScript)
	}
}

type rows = [][2]string

func TestScriptKeys(t *testing.T) {
	q := strconv.FormatInt(impl.Q, 10)
	last := strconv.FormatInt(impl.Q-1, 10)
	wantScript(t, "key",
		[2]string{"key k 5", "key k 0000000000000400"},
		[2]string{"key k 6", "twice"}, [2]string{"key k 5", "twice"}, [2]string{"key k 0", "twice"},
		[2]string{"key m 0", "no"}, [2]string{"key m " + q, "no"}, [2]string{"key m 999999999999999", "no"},
		[2]string{"key m 1", "key m 0000000000000004"}, [2]string{"key m 0", "twice"},
		[2]string{"key n " + last, keySaid("n", groupKey(impl.Q-1))},
		[2]string{"key o 00005", "key o 0000000000000400"},
		[2]string{"tree k 1 1", "twice"}, [2]string{"tree k 1 6", "twice"},
	)
	var all rows
	for height := range int64(6) {
		name, h := "t"+strconv.FormatInt(height, 10), strconv.FormatInt(height, 10)
		all = append(all, [2]string{"tree " + name + " 7 " + h, keySaid(name, treeKey(7, height))})
		all = append(all, [2]string{"tree " + name + " 7 " + h, "twice"}, [2]string{"key " + name + " 5", "twice"})
	}
	all = append(all,
		[2]string{"tree u 7 6", "no"}, [2]string{"tree u 7 999999999999999", "no"}, [2]string{"tree u 7 00006", "no"},
		[2]string{"tree u 0 0", keySaid("u", treeKey(0, 0))},
		[2]string{"tree v 999999999999999 001", keySaid("v", treeKey(999999999999999, 1))},
		[2]string{"tree w 7 6", "no"}, [2]string{"key w 9", keySaid("w", groupKey(9))},
	)
	wantScript(t, "tree", all...)
}

func TestScriptRoots(t *testing.T) {
	start := rows{{"key k 5", keySaid("k", groupKey(5))}, {"key m 6", keySaid("m", groupKey(6))}}
	var six rows
	for _, name := range []string{"a", "b", "c", "d", "e"} {
		six = append(six, [2]string{"root " + name + " k", "root " + name})
	}
	all := append(start, six...)
	wantScript(t, "root", append(all,
		[2]string{"root a m", "twice"}, [2]string{"root a z", "none"}, [2]string{"root z z", "none"},
		[2]string{"root k k", "root k"}, // names of keys are names of their own
		[2]string{"root z m", "no"}, [2]string{"root a m", "twice"}, [2]string{"root z z", "none"}, [2]string{"root z", "what"},
		[2]string{"cert f k m 9 ca", certSaid(scriptCert(1, "k", "f", pubOfSecret(groupKey(6)), 1000, 9, "ca"), groupKey(5))},
		[2]string{"root f m", "twice"}, [2]string{"root g m", "no"},
	)...)
	wantScript(t, "a name that a certificate has", append(start,
		[2]string{"root r k", "root r"},
		[2]string{"cert c r m 9 ca", certSaid(scriptCert(1, "r", "c", pubOfSecret(groupKey(6)), 1000, 9, "ca"), groupKey(5))},
		[2]string{"root c k", "twice"}, [2]string{"root c z", "none"}, [2]string{"cert r r m 9 ca", "twice"}, [2]string{"cert r z m 9 ca", "none"},
	)...)
}

// scriptStart is a key k of the secret 5, one m of the secret 6, and the anchor r with k.
func scriptStart() rows {
	return rows{{"key k 5", keySaid("k", groupKey(5))}, {"key m 6", keySaid("m", groupKey(6))}, {"root r k", "root r"}}
}

func TestScriptCertificates(t *testing.T) {
	k, m := groupKey(5), groupKey(6)
	mPub, kPub := pubOfSecret(m), pubOfSecret(k)
	wantScript(t, "cert", append(scriptStart(),
		[2]string{"cert i r m 900 ca", certSaid(scriptCert(1, "r", "i", mPub, 1000, 900, "ca"), k)},
		[2]string{"cert l i k 500 a.x", certSaid(scriptCert(2, "i", "l", kPub, 1000, 500, "a.x"), m)},
		[2]string{"tick 7", "at 1007"},
		[2]string{"cert w i k 0 *.a.x", certSaid(scriptCert(3, "i", "w", kPub, 1007, 0, "*.a.x"), m)},
		[2]string{"cert x i k 00010 ca.x", certSaid(scriptCert(4, "i", "x", kPub, 1007, 10, "ca.x"), m)},
		[2]string{"cert ca l k 1 ca", certSaid(scriptCert(5, "l", "ca", kPub, 1007, 1, "ca"), k)},
		[2]string{"cert y r k 1 cb", certSaid(scriptCert(6, "r", "y", kPub, 1007, 1, "cb"), k)},
		[2]string{"cert y r k 1 ca", "twice"}, [2]string{"cert r r k 1 ca", "twice"},
		[2]string{"cert z q k 1 ca", "none"}, [2]string{"cert z r q 1 ca", "none"}, [2]string{"cert y q k 1 ca", "none"}, [2]string{"cert y r q 1 ca", "none"},
		[2]string{"cert z k k 1 ca", "none"}, [2]string{"cert z r r 1 ca", "none"}, [2]string{"cert z z k 1 ca", "none"},
		[2]string{"cert z r k 1 *.x", "what"}, [2]string{"cert z r k 1 CA", "what"}, [2]string{"cert z r k 1 *", "what"}, [2]string{"cert z r k 1 *.*.a.x", "what"}, [2]string{"cert z r k 1 a..x", "what"},
		[2]string{"cert z r k 1 " + hostLong(101), "what"},
		[2]string{"cert z r k 1 " + hostLong(100), certSaid(scriptCert(7, "r", "z", kPub, 1007, 1, hostLong(100)), k)},
	)...)
}

// A certificate that is too long-lived is not issued, and uses up no serial and no leaf.
func TestScriptSerials(t *testing.T) {
	k, tree := groupKey(5), treeKey(9, 1)
	kPub := pubOfSecret(k)
	longest := strconv.FormatInt(impl.MaxTime-1000, 10)
	tooLong := strconv.FormatInt(impl.MaxTime-999, 10)
	wantScript(t, "serials", append(scriptStart(),
		[2]string{"tree t 9 1", keySaid("t", tree)}, [2]string{"root s t", "root s"},
		[2]string{"cert a s k " + tooLong + " ca", "no"}, [2]string{"cert a s k 999999999999999 a.x", "no"},
		[2]string{"cert a r k " + longest + " ca", certSaid(scriptCert(1, "r", "a", kPub, 1000, impl.MaxTime-1000, "ca"), k)},
		[2]string{"cert b s k " + tooLong + " ca", "no"},
		[2]string{"cert b s k 1 ca", certSaid(scriptCert(2, "s", "b", kPub, 1000, 1, "ca"), tree)},
		[2]string{"cert c s k " + tooLong + " b.x", "no"},
		[2]string{"cert c s k 1 b.x", certSaid(scriptCert(3, "s", "c", kPub, 1000, 1, "b.x"), spent(tree, 1))},
		[2]string{"cert d s k 1 b.x", "no"}, [2]string{"cert c s k 1 b.x", "twice"}, [2]string{"cert d s z 1 b.x", "none"},
		[2]string{"cert d r k 1 b.x", certSaid(scriptCert(4, "r", "d", kPub, 1000, 1, "b.x"), k)},
	)...)
}

// A key has one state, whoever signs with it; keys with one seed and two names have two.
func TestScriptKeysThatAreUsedUp(t *testing.T) {
	tree := treeKey(9, 1)
	pub := pubOfSecret(tree)
	wantScript(t, "used up", rows{
		{"tree t 9 1", keySaid("t", tree)}, {"tree u 9 1", keySaid("u", tree)}, {"tree v 9 0", keySaid("v", treeKey(9, 0))},
		{"root r t", "root r"}, {"root s u", "root s"},
		{"cert a r t 5 ca", certSaid(scriptCert(1, "r", "a", pub, 1000, 5, "ca"), tree)},
		{"cert b a t 5 ca", certSaid(scriptCert(2, "a", "b", pub, 1000, 5, "ca"), spent(tree, 1))},
		{"cert c b t 5 ca", "no"}, {"cert c r t 5 ca", "no"}, {"cert c a u 5 a.x", "no"},
		{"root q t", "root q"}, {"cert c q t 5 ca", "no"},
		{"cert c s t 5 ca", certSaid(scriptCert(3, "s", "c", pub, 1000, 5, "ca"), tree)},
		{"cert d c t 5 ca", "no"},
		{"cert d s v 5 ca", certSaid(scriptCert(4, "s", "d", pubOfSecret(treeKey(9, 0)), 1000, 5, "ca"), spent(tree, 1))},
		{"cert e s v 5 ca", "no"},
		{"cert e d t 5 a.x", certSaid(scriptCert(5, "d", "e", pub, 1000, 5, "a.x"), treeKey(9, 0))},
		{"cert f d t 5 a.x", "no"},
		{"find e a.x", "path s d e"},
	}...)
}

func TestScriptCertificatesAndAnchorsAboutTheirLimits(t *testing.T) {
	k := groupKey(5)
	kPub := pubOfSecret(k)
	all := scriptStart()
	for i := range int64(14) {
		name := "c" + strconv.FormatInt(i, 10)
		all = append(all, [2]string{"cert " + name + " r k 9 a.x", certSaid(scriptCert(i+1, "r", name, kPub, 1000, 9, "a.x"), k)})
	}
	all = append(all,
		[2]string{"cert d r k 9 a.x", "no"}, [2]string{"cert d r k 9 ca", "no"}, [2]string{"cert c3 r k 9 ca", "twice"}, [2]string{"cert d z k 9 ca", "none"}, [2]string{"cert d r k 9", "what"},
		[2]string{"find c13 a.x", "path r c13"}, [2]string{"find d a.x", "none"}, [2]string{"log d", "none"},
		[2]string{"gone c13 1", "gone c13"}, [2]string{"cert d r k 9 a.x", "no"}, [2]string{"find c13 a.x", "no"}, [2]string{"find c12 a.x", "path r c12"},
		[2]string{"root d m", "root d"},
	)
	wantScript(t, "MaxPool", all...)
}

func TestScriptGone(t *testing.T) {
	k := groupKey(5)
	all := scriptStart()
	for i := range int64(8) {
		name := "c" + strconv.FormatInt(i, 10)
		all = append(all, [2]string{"cert " + name + " r k 9 a.x", certSaid(scriptCert(i+1, "r", name, pubOfSecret(k), 1000, 9, "a.x"), k)})
	}
	all = append(all,
		[2]string{"gone c0 0", "no"}, [2]string{"gone c0 7", "no"}, [2]string{"gone c0 999999999999999", "no"}, [2]string{"find c0 a.x", "path r c0"},
		[2]string{"gone c1 1", "gone c1"}, [2]string{"gone c2 2", "gone c2"}, [2]string{"gone c3 3", "gone c3"}, [2]string{"gone c4 4", "gone c4"}, [2]string{"gone c5 5", "gone c5"}, [2]string{"gone c6 006", "gone c6"},
		[2]string{"gone c1 1", "no"}, [2]string{"gone c2 3", "no"}, [2]string{"gone c6 7", "no"},
		[2]string{"gone r 1", "none"}, [2]string{"gone k 1", "none"}, [2]string{"gone z 9", "none"}, [2]string{"gone c0", "what"}, [2]string{"gone c0 x", "what"}, [2]string{"gone c0 1 1", "what"},
		[2]string{"find c1 a.x", "no"}, [2]string{"find c2 a.x", "no"}, [2]string{"find c3 a.x", "no"}, [2]string{"find c4 a.x", "no"}, [2]string{"find c5 a.x", "no"}, [2]string{"find c6 a.x", "no"},
		[2]string{"find c7 a.x", "path r c7"}, [2]string{"find c0 a.x", "path r c0"},
		[2]string{"tick 5", "at 1005"}, [2]string{"find c1 a.x", "no"}, [2]string{"find c7 a.x", "path r c7"},
		[2]string{"gone c1 1", "no"}, [2]string{"gone c7 6", "gone c7"}, [2]string{"find c7 a.x", "no"},
	)
	wantScript(t, "gone", all...)
}

// Issuers take back one after the other, in another order than that of their making; nobody else's are gone by that.
func TestScriptListsOfManyIssuers(t *testing.T) {
	k, m := groupKey(5), groupKey(6)
	kPub, mPub := pubOfSecret(k), pubOfSecret(m)
	wantScript(t, "lists", append(scriptStart(),
		[2]string{"cert i r m 90 ca", certSaid(scriptCert(1, "r", "i", mPub, 1000, 90, "ca"), k)},
		[2]string{"cert j r m 90 ca", certSaid(scriptCert(2, "r", "j", mPub, 1000, 90, "ca"), k)},
		[2]string{"cert a i k 90 a.x", certSaid(scriptCert(3, "i", "a", kPub, 1000, 90, "a.x"), m)},
		[2]string{"cert b i k 90 a.x", certSaid(scriptCert(4, "i", "b", kPub, 1000, 90, "a.x"), m)},
		[2]string{"cert c j k 90 a.x", certSaid(scriptCert(5, "j", "c", kPub, 1000, 90, "a.x"), m)},
		[2]string{"cert d j k 90 a.x", certSaid(scriptCert(6, "j", "d", kPub, 1000, 90, "a.x"), m)},
		[2]string{"gone d 6", "gone d"}, [2]string{"find d a.x", "no"}, [2]string{"find c a.x", "path r j c"}, [2]string{"find a a.x", "path r i a"},
		[2]string{"tick 1", "at 1001"},
		[2]string{"gone a 2", "gone a"}, [2]string{"find a a.x", "no"}, [2]string{"find b a.x", "path r i b"}, [2]string{"find d a.x", "no"},
		[2]string{"tick 1", "at 1002"},
		[2]string{"gone c 1", "gone c"}, [2]string{"find c a.x", "no"}, [2]string{"find b a.x", "path r i b"},
		[2]string{"gone j 4", "gone j"}, [2]string{"find b a.x", "path r i b"},
		[2]string{"gone i 5", "gone i"}, [2]string{"find b a.x", "no"}, [2]string{"gone b 5", "gone b"}, [2]string{"find b a.x", "no"},
	)...)
}

func TestScriptClock(t *testing.T) {
	k := groupKey(5)
	kPub := pubOfSecret(k)
	end := strconv.FormatInt(impl.MaxTime-1001, 10)
	wantScript(t, "tick", append(scriptStart(),
		[2]string{"cert c r k " + strconv.FormatInt(impl.MaxTime-1000, 10) + " a.x", certSaid(scriptCert(1, "r", "c", kPub, 1000, impl.MaxTime-1000, "a.x"), k)},
		[2]string{"tick 0", "at 1000"}, [2]string{"tick 999999999999999", "no"},
		[2]string{"tick " + strconv.FormatInt(impl.MaxTime-1000, 10), "no"}, [2]string{"tick " + strconv.FormatInt(impl.MaxTime-999, 10), "no"},
		[2]string{"tick", "what"}, [2]string{"tick x", "what"}, [2]string{"tick -1", "what"}, [2]string{"tick 1 1", "what"},
		[2]string{"tick 00", "at 1000"},
		[2]string{"tick " + end, "at 253402300798"}, [2]string{"tick 0", "at 253402300798"}, [2]string{"tick 1", "no"}, [2]string{"tick 2", "no"}, [2]string{"tick 0", "at 253402300798"},
		[2]string{"find c a.x", "path r c"},
		[2]string{"cert d r k 2 a.x", "no"},
		[2]string{"cert d r k 1 a.x", certSaid(scriptCert(2, "r", "d", kPub, impl.MaxTime-1, 1, "a.x"), k)},
		[2]string{"find d a.x", "path r d"}, [2]string{"gone c 1", "gone c"}, [2]string{"find c a.x", "no"}, [2]string{"find d a.x", "path r d"},
	)...)
	wantScript(t, "tick goes on", [2]string{"tick 5", "at 1005"}, [2]string{"tick 10", "at 1015"}, [2]string{"tick 100000", "at 101015"})
}

func TestScriptFindsAtTheEndsOfALife(t *testing.T) {
	k, m := groupKey(5), groupKey(6)
	kPub, mPub := pubOfSecret(k), pubOfSecret(m)
	wantScript(t, "lives", append(scriptStart(),
		[2]string{"cert i r m 20 ca", certSaid(scriptCert(1, "r", "i", mPub, 1000, 20, "ca"), k)},
		[2]string{"cert a i k 10 a.x", certSaid(scriptCert(2, "i", "a", kPub, 1000, 10, "a.x"), m)},
		[2]string{"cert b i k 90 a.x", certSaid(scriptCert(3, "i", "b", kPub, 1000, 90, "a.x"), m)},
		[2]string{"find a a.x", "path r i a"},
		[2]string{"tick 10", "at 1010"}, [2]string{"find a a.x", "path r i a"},
		[2]string{"tick 1", "at 1011"}, [2]string{"find a a.x", "no"}, [2]string{"find b a.x", "path r i b"},
		[2]string{"tick 9", "at 1020"}, [2]string{"find b a.x", "path r i b"},
		[2]string{"tick 1", "at 1021"}, [2]string{"find b a.x", "no"},
		[2]string{"cert c r k 0 a.x", certSaid(scriptCert(4, "r", "c", kPub, 1021, 0, "a.x"), k)},
		[2]string{"find c a.x", "path r c"}, [2]string{"tick 1", "at 1022"}, [2]string{"find c a.x", "no"},
	)...)
}

func TestScriptFindsByHost(t *testing.T) {
	k, m := groupKey(5), groupKey(6)
	kPub, mPub := pubOfSecret(k), pubOfSecret(m)
	wantScript(t, "hosts", append(scriptStart(),
		[2]string{"cert i r m 90 ca", certSaid(scriptCert(1, "r", "i", mPub, 1000, 90, "ca"), k)},
		[2]string{"cert a i k 90 a.x", certSaid(scriptCert(2, "i", "a", kPub, 1000, 90, "a.x"), m)},
		[2]string{"cert w i k 90 *.b.x", certSaid(scriptCert(3, "i", "w", kPub, 1000, 90, "*.b.x"), m)},
		[2]string{"cert u a m 90 a.x", certSaid(scriptCert(4, "a", "u", mPub, 1000, 90, "a.x"), k)},
		[2]string{"find a a.x", "path r i a"}, [2]string{"find a b.x", "no"}, [2]string{"find a x", "no"}, [2]string{"find a c.a.x", "no"},
		[2]string{"find w a.b.x", "path r i w"}, [2]string{"find w b.x", "no"}, [2]string{"find w c.a.b.x", "no"},
		[2]string{"find w *.b.x", "what"}, [2]string{"find a *.a.x", "what"}, [2]string{"find a A.x", "what"}, [2]string{"find a ca", "no"},
		[2]string{"find i a.x", "no"}, // it has no host, and is no server
		[2]string{"find u a.x", "no"}, // who issued it may not
		[2]string{"find r a.x", "none"}, [2]string{"find k a.x", "none"}, [2]string{"find z a.x", "none"},
		[2]string{"find a", "what"}, [2]string{"find a a.x a.x", "what"}, [2]string{"find a " + hostLong(100), "no"}, [2]string{"find a " + hostLong(101), "what"},
	)...)
}

// Behind 7 authorities a certificate is found, behind 8 it is not.
func TestScriptFindsLongPaths(t *testing.T) {
	k := groupKey(5)
	kPub := pubOfSecret(k)
	for count := range int64(10) {
		all := rows{{"key k 5", keySaid("k", k)}, {"root s k", "root s"}, {"root r k", "root r"}, {"root q k", "root q"}}
		by, names := "r", "r"
		for i := range count {
			name := "c" + strconv.FormatInt(i, 10)
			all = append(all, [2]string{"cert " + name + " " + by + " k 90 ca", certSaid(scriptCert(i+1, by, name, kPub, 1000, 90, "ca"), k)})
			by, names = name, names+" "+name
		}
		said := "path " + names + " end"
		if count > 7 {
			said = "no"
		}
		all = append(all,
			[2]string{"cert end " + by + " k 90 a.x", certSaid(scriptCert(count+1, by, "end", kPub, 1000, 90, "a.x"), k)},
			[2]string{"find end a.x", said},
		)
		wantScript(t, "so many authorities", all...)
	}
}

func TestScriptLog(t *testing.T) {
	k := groupKey(5)
	kPub := pubOfSecret(k)
	certs := map[string]impl.Cert{}
	all := scriptStart()
	for i, name := range []string{"a", "b", "c"} {
		c := scriptCert(int64(i+1), "r", name, kPub, 1000, 9, "a.x")
		all = append(all, [2]string{"cert " + name + " r k 9 a.x", certSaid(c, k)})
		c.Sig = slowBytes(k, slowCertBody(c))
		certs[name] = c
	}
	all = append(all, [2]string{"prove a", "no"}, [2]string{"log z", "none"}, [2]string{"log r", "none"}, [2]string{"prove z", "none"}, [2]string{"prove r", "none"}, [2]string{"log", "what"}, [2]string{"log a b", "what"}, [2]string{"prove", "what"}, [2]string{"prove a a", "what"})
	var row []uint64
	add := func(name string) {
		row = append(row, impl.EntryHash(slowCert(certs[name])))
		all = append(all, [2]string{"log " + name, "log " + strconv.Itoa(len(row)) + " " + hexOf(slowRoot(row))})
	}
	add("a")
	all = append(all, [2]string{"prove a", "proof 0 ok"}, [2]string{"prove b", "no"})
	add("b")
	all = append(all, [2]string{"prove a", "proof 1 ok"}, [2]string{"prove b", "proof 1 ok"})
	add("a")
	all = append(all, [2]string{"prove a", "proof 2 ok"}, [2]string{"prove b", "proof 2 ok"}, [2]string{"prove c", "no"})
	add("b")
	add("c")
	all = append(all, [2]string{"prove a", "proof 3 ok"}, [2]string{"prove c", "proof 1 ok"})
	add("c")
	all = append(all, [2]string{"prove c", "proof 2 ok"}, [2]string{"gone c 1", "gone c"}, [2]string{"prove c", "proof 2 ok"})
	wantScript(t, "log", all...)
}

// A script has too few lines for a log that is full: as many as there can be are taken.
func TestScriptLogOfManyLines(t *testing.T) {
	k := groupKey(5)
	c := scriptCert(1, "r", "c", pubOfSecret(k), 1000, 9, "ca")
	all := append(scriptStart()[:1], [2]string{"root r k", "root r"}, [2]string{"cert c r k 9 ca", certSaid(c, k)})
	c.Sig = slowBytes(k, slowCertBody(c))
	var row []uint64
	for len(all) < 59 {
		row = append(row, impl.EntryHash(slowCert(c)))
		all = append(all, [2]string{"log c", "log " + strconv.Itoa(len(row)) + " " + hexOf(slowRoot(row))})
	}
	wantScript(t, "many", append(all, [2]string{"prove c", "proof 6 ok"})...)
}

func TestScriptFilter(t *testing.T) {
	k := groupKey(5)
	kPub := pubOfSecret(k)
	said := func(i int64, name string) [2]string {
		return [2]string{"cert " + name + " r k 9 a.x", certSaid(scriptCert(i, "r", name, kPub, 1000, 9, "a.x"), k)}
	}
	size := func(gone string, good string) string {
		digests := func(names string) []uint64 {
			var out []uint64
			for _, name := range strings.Fields(names) {
				c := scriptCert(int64(strings.Index("abc", name)+1), "r", name, kPub, 1000, 9, "a.x")
				c.Sig = slowBytes(k, slowCertBody(c))
				out = append(out, slowDigest(slowCert(c)))
			}
			return out
		}
		cascade, _ := impl.Build(digests(gone), digests(good))
		b, _ := impl.CascadeBytes(cascade)
		return "filter " + strconv.Itoa(len(b))
	}
	wantScript(t, "filter", append(scriptStart(),
		[2]string{"filter", "filter 1"}, [2]string{"filter x", "what"}, [2]string{"gone? a", "none"}, [2]string{"gone? r", "none"}, [2]string{"gone?", "what"},
		said(1, "a"), said(2, "b"), said(3, "c"),
		[2]string{"gone? a", "no"}, [2]string{"gone? a b", "what"}, [2]string{"filter", "filter 1"}, [2]string{"gone? a", "no"},
		[2]string{"gone a 1", "gone a"}, [2]string{"gone? a", "no"},
		[2]string{"filter", size("a", "b c")}, [2]string{"gone? a", "yes"}, [2]string{"gone? b", "no"}, [2]string{"gone? c", "no"},
		[2]string{"gone c 1", "gone c"}, [2]string{"gone? c", "no"}, [2]string{"gone? a", "yes"},
		[2]string{"filter", size("a c", "b")}, [2]string{"gone? a", "yes"}, [2]string{"gone? b", "no"}, [2]string{"gone? c", "yes"},
		[2]string{"gone b 1", "gone b"}, [2]string{"gone? b", "no"},
		[2]string{"filter", size("a b c", "")}, [2]string{"gone? a", "yes"}, [2]string{"gone? b", "yes"}, [2]string{"gone? c", "yes"},
		[2]string{"filter", size("a b c", "")},
	)...)
}

// These two have the same places in so many rows that no filter parts them. The one that was built last stays then.
func TestScriptFilterThatCannotBeBuilt(t *testing.T) {
	k := groupKey(5)
	kPub := pubOfSecret(k)
	for _, lives := range [][2]int64{{179, 1021}, {288, 253}, {457, 816}} {
		a, b := strconv.FormatInt(lives[0], 10), strconv.FormatInt(lives[1], 10)
		makeA := [2]string{"cert a r k " + a + " ca", certSaid(scriptCert(1, "r", "a", kPub, 1000, lives[0], "ca"), k)}
		makeB := [2]string{"cert b r k " + b + " ca", certSaid(scriptCert(2, "r", "b", kPub, 1000, lives[1], "ca"), k)}
		wantScript(t, "no filter", append(scriptStart(), makeA, makeB,
			[2]string{"gone a 1", "gone a"}, [2]string{"filter", "no"}, [2]string{"gone? a", "no"}, [2]string{"gone? b", "no"},
		)...)
		wantScript(t, "an older one", append(scriptStart(), makeA,
			[2]string{"gone a 1", "gone a"}, [2]string{"filter", "filter 3"}, [2]string{"gone? a", "yes"},
			makeB, [2]string{"filter", "no"}, [2]string{"gone? a", "yes"},
			[2]string{"gone b 1", "gone b"}, [2]string{"filter", "filter 3"}, [2]string{"gone? a", "yes"}, [2]string{"gone? b", "yes"},
		)...)
	}
}

func TestScriptNames(t *testing.T) {
	for name, ok := range map[string]bool{
		"a": true, "z": true, "0": true, "9": true, "abcdefgh": true, "01234567": true, "a0z9": true, "abcdefghi": false, "123456789": false, "ca": true, "key": true,
		"A": false, "Z": false, "a-b": false, "a.b": false, "a_": false, "a?": false, "é": false, "\xff": false, "a\t": false, "\ta": false, "a\x00": false, "a\r": false, "`": false, "{": false, "/": false, ":": false,
	} {
		said := func(line string, yes string) [2]string {
			if ok {
				return [2]string{line, yes}
			}
			return [2]string{line, "what"}
		}
		k := groupKey(5)
		pub := pubOfSecret(k)
		wantScript(t, "a key called "+name, said("key "+name+" 5", keySaid(name, k)))
		wantScript(t, "a tree called "+name, said("tree "+name+" 5 1", keySaid(name, treeKey(5, 1))))
		wantScript(t, "an anchor called "+name, [2]string{"key k 5", keySaid("k", k)}, said("root "+name+" k", "root "+name), said("root x1 "+name, "none"))
		wantScript(t, "a certificate called "+name, append(scriptStart(),
			said("cert "+name+" r k 9 a.x", certSaid(scriptCert(1, "r", name, pub, 1000, 9, "a.x"), k)),
			said("cert x2 "+name+" k 9 ca", certSaid(scriptCert(2, name, "x2", pub, 1000, 9, "ca"), k)),
			said("cert x3 r "+name+" 9 ca", "none"), said("find "+name+" a.x", "path r "+name), said("find "+name+" b.x", "no"),
			said("log "+name, "log 1 "+logged(scriptCert(1, "r", name, pub, 1000, 9, "a.x"), k)), said("prove "+name, "proof 0 ok"),
			said("gone? "+name, "no"), said("gone "+name+" 1", "gone "+name), said("find "+name+" a.x", "no"),
		)...)
	}
}

func TestScriptNumbers(t *testing.T) {
	for number, ok := range map[string]bool{
		"0": true, "5": true, "05": true, "000000000000005": true, "0000000000000005": false, "999999999999999": true, "1000000000000000": false, "9999999999999999": false,
		"99999999999999999999999": false, "-1": false, "+1": false, "1.0": false, "1e3": false, "0x1": false, "1_0": false, "a": false, "٣": false, "1\t": false, "\x001": false, "/": false, ":": false, "1\r": false,
	} {
		n := wordNumber(number)
		row := func(line string, no bool, yes string) [2]string {
			switch {
			case !ok:
				return [2]string{line, "what"}
			case no:
				return [2]string{line, "no"}
			}
			return [2]string{line, yes}
		}
		k := groupKey(5)
		pub := pubOfSecret(k)
		key, tree, height := groupKey(uint64(n)), treeKey(uint64(n), 1), treeKey(3, n)
		all := scriptStart()
		if _, right := impl.PubOf(key); right || !ok {
			all = append(all, row("key n "+number, false, keySaid("n", key)))
		} else {
			all = append(all, row("key n "+number, true, ""))
		}
		all = append(all, row("tree o "+number+" 1", false, keySaid("o", tree)), row("tree p 3 "+number, n > 5, keySaid("p", height)))
		all = append(all,
			[2]string{"cert d r k 9 a.x", certSaid(scriptCert(1, "r", "d", pub, 1000, 9, "a.x"), k)},
			row("cert c r k "+number+" a.x", n > impl.MaxTime, certSaid(scriptCert(2, "r", "c", pub, 1000, n, "a.x"), k)),
			row("gone d "+number, n < 1 || n > 6, "gone d"),
			row("tick "+number, n > impl.MaxTime, "at "+strconv.FormatInt(1000+n, 10)),
		)
		wantScript(t, "the number "+number, all...)
	}
}

// logged is the root of a log that has a certificate of a secret alone.
func logged(c impl.Cert, s impl.Secret) string {
	c.Sig = slowBytes(s, slowCertBody(c))
	return hexOf(impl.EntryHash(slowCert(c)))
}

// rightLines are one of each form, and what is said of them behind scriptStart.
func rightLines() rows {
	k := groupKey(5)
	pub := pubOfSecret(k)
	c := scriptCert(1, "r", "c", pub, 1000, 9, "a.x")
	return rows{
		{"key n 7", keySaid("n", groupKey(7))},
		{"tree t 7 1", keySaid("t", treeKey(7, 1))},
		{"root s m", "root s"},
		{"cert c r k 9 a.x", certSaid(c, k)},
		{"cert i r k 9 ca", certSaid(scriptCert(2, "r", "i", pub, 1000, 9, "ca"), k)},
		{"find c a.x", "path r c"},
		{"log c", "log 1 " + logged(c, k)},
		{"prove c", "proof 0 ok"},
		{"filter", "filter 1"},
		{"gone? c", "no"},
		{"gone c 1", "gone c"},
		{"tick 5", "at 1005"},
	}
}

func TestScriptWordsAndBlanks(t *testing.T) {
	for _, between := range []string{" ", "  ", "     ", strings.Repeat(" ", 1000)} {
		for _, ahead := range []string{"", " ", "    "} {
			for _, behind := range []string{"", " ", "    "} {
				all := rows{}
				for _, row := range append(scriptStart(), rightLines()...) {
					all = append(all, [2]string{ahead + strings.ReplaceAll(row[0], " ", between) + behind, row[1]}, [2]string{ahead + behind, ""})
				}
				wantScript(t, "blanks", all...)
			}
		}
	}
	for _, other := range []string{"\t", "\r", "\v", "\f", "\x00", "\u00a0", "\u2003", "\x85", ",", ";", "\xff"} {
		all := append(scriptStart(), rightLines()...)
		for _, row := range rightLines() {
			words := strings.Split(row[0], " ")
			for at := range words {
				bent := append([]string{}, words...)
				bent[at] += other
				all = append(all, [2]string{strings.Join(bent, " "), "what"})
			}
			if len(all) > 50 {
				break
			}
		}
		all = append(all, [2]string{other, "what"}, [2]string{" " + other + " ", "what"}, [2]string{"filter" + other, "what"}, [2]string{other + "filter", "what"}, [2]string{"tick" + other + "5", "what"}, [2]string{"tick 5 " + other, "what"})
		wantScript(t, "a byte that parts no words", all...)
	}
}

func TestScriptWordsTooManyAndTooFew(t *testing.T) {
	for _, row := range rightLines() {
		words := strings.Split(row[0], " ")
		all := append(scriptStart(), rightLines()...)
		for count := 1; count < len(words); count++ {
			all = append(all, [2]string{strings.Join(words[:count], " "), "what"})
		}
		for _, more := range []string{"a", "1", "ca", "a.x", words[len(words)-1], "filter"} {
			all = append(all, [2]string{row[0] + " " + more, "what"}, [2]string{more + " " + row[0], "what"})
		}
		wantScript(t, "words of "+row[0], all...)
	}
	for _, word := range []string{"", "Key", "KEY", "keys", "ke", "keyk", "trees", "roots", "certs", "gone!", "gone??", "?gone", "ticks", "finds", "logs", "proof", "proves", "filters", "at", "path", "what", "none", "#", "5", "k"} {
		for _, rest := range []string{"", " k 5", " c r k 9 ca", " 5", " c", " c 1", " r k", " c a.x"} {
			if line := word + rest; line != "" && word != "" {
				wantScript(t, "another word", [2]string{line, "what"})
			}
		}
	}
}

// A line that may be answered in two ways is in the first one of them.
func TestScriptAnswersInTheirOrder(t *testing.T) {
	k := groupKey(5)
	pub := pubOfSecret(k)
	start := append(scriptStart(), [2]string{"cert c r k 9 a.x", certSaid(scriptCert(1, "r", "c", pub, 1000, 9, "a.x"), k)}, [2]string{"gone c 1", "gone c"})
	for said, lines := range map[string][]string{
		"what": {
			"key k x", "key k 5 5", "key K 0", "key k", "tree k x 1", "tree k 1 x", "tree k 1", "tree k 1 6 6", // ahead of twice and no
			"root r", "root r z z", "root R k", "root r Z", "root r k k", // ahead of none and twice
			"cert c z z 9", "cert c z z x ca", "cert c z z 9 A.x", "cert c z z 9 *.x", "cert C z z 9 ca", "cert c Z z 9 ca", "cert c z Z 9 ca", "cert c r k 9 ca ca", "cert c r k 999999999999999 *", // ahead of all others
			"gone z x", "gone z", "gone Z 9", "gone c x", "gone c 9 9", "tick 999999999999999 1", "tick 9999999999999999", // ahead of none and no
			"find z *.a.x", "find z", "find Z a.x", "find c *.a.x", "find c a.x b.x", "find z A", "log z z", "log Z", "prove z z", "prove Z", "prove c c", "gone? z z", "gone? Z", "gone? c c",
		},
		"none": {
			"root r z", "root c z", "root z z", // ahead of twice
			"cert c z k 9 ca", "cert c r z 9 ca", "cert c z z 9 ca", "cert r z k 9 a.x", "cert r r z 9 a.x", // ahead of twice
			"cert q z k 999999999999999 ca", "cert q r z 999999999999999 ca", "cert c z z 999999999999999 ca", // ahead of no
			"gone z 9", "gone z 0", "gone r 9", "gone k 1", "find z b.x", "find r b.x", "log z", "log r", "prove z", "prove r", "gone? z", "gone? r", "gone? k", // ahead of no
		},
		"twice": {"key k 0", "key m 999999999999999", "tree k 1 6", "tree m 1 6", "cert c r k 999999999999999 ca", "cert r r k 999999999999999 a.x"}, // ahead of no
		"no":    {"key z 0", "tree z 1 6", "cert z r k 999999999999999 ca", "gone c 1", "gone c 0", "tick 999999999999999", "find c a.x", "find c b.x", "prove c", "gone? c"},
	} {
		for _, line := range lines {
			wantScript(t, line, append(start, [2]string{line, said})...)
		}
	}
	var roots rows
	for _, name := range []string{"b", "d", "e", "f", "g"} {
		roots = append(roots, [2]string{"root " + name + " k", "root " + name})
	}
	wantScript(t, "too many anchors", append(append(start, roots...),
		[2]string{"root r z", "none"}, [2]string{"root z z", "none"}, [2]string{"root r k", "twice"}, [2]string{"root c k", "twice"}, [2]string{"root z k", "no"}, [2]string{"root z", "what"}, [2]string{"root Z k", "what"},
	)...)
}

// What is refused leaves all as it was.
func TestScriptLinesThatAreNotDone(t *testing.T) {
	all := append(scriptStart(), rightLines()[:11]...)
	bad := rows{
		{"key k 7", "twice"}, {"key z 0", "no"}, {"tree z 1 9", "no"}, {"root c k", "twice"}, {"root z z", "none"}, {"cert c r k 9 b.x", "twice"}, {"cert z z k 9 b.x", "none"},
		{"cert z r k 999999999999999 b.x", "no"}, {"gone i 7", "no"}, {"gone c 2", "no"}, {"tick 999999999999999", "no"}, {"what", "what"}, {"log z", "none"}, {"prove i", "no"},
	}
	after := rows{
		{"prove c", "proof 0 ok"}, {"find c a.x", "no"}, {"tick 0", "at 1000"}, {"gone? i", "no"}, {"root z k", "root z"},
		{"cert z2 s k 9 a.x", certSaid(scriptCert(3, "s", "z2", pubOfSecret(groupKey(5)), 1000, 9, "a.x"), groupKey(6))}, {"find z2 a.x", "path s z2"}, {"key z 7", keySaid("z", groupKey(7))},
	}
	wantScript(t, "without", append(append(rows{}, all...), after...)...)
	wantScript(t, "with", append(append(append(rows{}, all...), bad...), after...)...)
	for _, row := range bad {
		wantScript(t, row[0], append(append(append(rows{}, all...), row), after...)...)
	}
}

func TestScriptLinesAboutTheirLimits(t *testing.T) {
	for count := range 70 {
		text := strings.Repeat("tick 0\n", count)
		want := strings.Repeat("at 1000\n", count)
		if count > 60 {
			want = "too long\n"
		}
		if got := impl.RunScript(text); got != want {
			t.Errorf("%d lines: %q", count, got)
		}
		blank := strings.Repeat("\n", count)
		if got := impl.RunScript(blank); got != map[bool]string{true: "too long\n"}[count > 60] {
			t.Errorf("%d lines without words: %q", count, got)
		}
		if got := impl.RunScript(text + "tick 0"); got != "too long\n" {
			t.Errorf("%d lines and one without an end: %q", count, got)
		}
		if got := impl.RunScript(text + " "); got != "too long\n" {
			t.Errorf("%d lines and a blank: %q", count, got)
		}
	}
	for text, want := range map[string]string{
		"": "", "\n": "", " \n": "", "\n\n": "", " ": "too long\n", "x": "too long\n", "x\n": "what\n", "\nx": "too long\n", "filter\n": "filter 1\n", "filter": "too long\n", "filter\r\n": "what\n", "\r": "too long\n", "\x00": "too long\n",
		strings.Repeat("x", 100000): "too long\n", strings.Repeat("x", 100000) + "\n": "what\n", strings.Repeat(" ", 100000) + "\n": "", strings.Repeat("x ", 50000) + "\n": "what\n", strings.Repeat("\n", 100000): "too long\n",
	} {
		if got := impl.RunScript(text); got != want || slowScript(t, text) != want {
			t.Errorf("%.20q: %q, want %q", text, got, want)
		}
	}
}

func TestAnyScript(t *testing.T) {
	r := rand.New(rand.NewSource(2401))
	counts := map[string]int{}
	for range 1200 {
		lines := anyScript(r)
		text := strings.Join(lines, "\n") + "\n"
		got, want := impl.RunScript(text), slowScript(t, text)
		if got != want {
			t.Fatalf("%q\n%s\n%s", text, got, want)
		}
		said := strings.Split(got, "\n")
		at := 0
		for _, line := range lines {
			words := strings.Fields(line)
			if len(words) > 0 && strings.Trim(line, " ") != "" && at < len(said) {
				counts[words[0]+" "+strings.Fields(said[at])[0]]++
				at++
			}
		}
	}
	for _, what := range []string{
		"key key", "key no", "key twice", "key what", "tree key", "tree no", "tree twice", "tree what", "root root", "root none", "root twice", "root no", "root what",
		"cert cert", "cert none", "cert twice", "cert no", "cert what", "gone gone", "gone none", "gone no", "gone what", "tick at", "tick no", "tick what",
		"find path", "find none", "find no", "find what", "log log", "log none", "log what", "prove proof", "prove none", "prove no", "prove what",
		"filter filter", "filter what", "gone? yes", "gone? no", "gone? none", "gone? what",
	} {
		if counts[what] < 10 {
			t.Error("few", what, counts[what])
		}
	}
	if counts["find path"] < 300 || counts["find no"] < 300 || counts["gone? yes"] < 50 {
		t.Error(counts)
	}
}

// Texts that are no scripts are answered, too.
func TestAnyTextAsAScript(t *testing.T) {
	r := rand.New(rand.NewSource(2402))
	for range 3000 {
		text := ""
		for range r.Intn(30) {
			text += oneOf(r, "key", "tree", "root", "cert", "gone", "tick", "find", "log", "prove", "filter", "gone?", " ", " ", " ", " ", "\n", "\n", "\n", "k", "r", "c", "5", "6", "ca", "a.x", "\t", "\xff", "é", "\x00")
		}
		if r.Intn(4) > 0 {
			text += "\n"
		}
		if got, want := impl.RunScript(text), slowScript(t, text); got != want {
			t.Fatalf("%q: %q, want %q", text, got, want)
		}
	}
}
