package tests

import (
	"bytes"
	"math"
	"math/big"
	"math/rand"
	"slices"
	"testing"

	"loop.example/g00041/impl"
)

// bigPow is b to the e, modulo m, worked out by another's arithmetic.
func bigPow(b int64, e int64, m int64) int64 {
	return new(big.Int).Exp(big.NewInt(b), big.NewInt(e), big.NewInt(m)).Int64()
}

// modQ is a sum of products, each of the numbers of one list, modulo Q, from 0 on.
func modQ(products ...[]int64) int64 {
	sum := big.NewInt(0)
	for _, list := range products {
		product := big.NewInt(1)
		for _, n := range list {
			product.Mul(product, big.NewInt(n))
		}
		sum.Add(sum, product)
	}
	return sum.Mod(sum, big.NewInt(impl.Q)).Int64()
}

// byQ is a by b, modulo Q.
func byQ(a int64, b int64) int64 {
	under := new(big.Int).Mod(big.NewInt(b), big.NewInt(impl.Q))
	return modQ([]int64{a, under.ModInverse(under, big.NewInt(impl.Q)).Int64()})
}

func anySecret(r *rand.Rand) int64 { return 1 + r.Int63n(impl.Q-1) }

func anyMsg(r *rand.Rand) []byte {
	b := make([]byte, r.Intn(40))
	r.Read(b)
	return b
}

func isPrime(n int64) bool {
	for d := int64(2); d*d <= n; d++ {
		if n%d == 0 {
			return false
		}
	}
	return n > 1
}

func TestTheGroupIsAsToldInTheDocument(t *testing.T) {
	if impl.P != 1000000007 || impl.Q != 500000003 || impl.G != 4 || impl.MaxMod != 1<<31 || impl.MaxShares != 20 {
		t.Error("constants", impl.P, impl.Q, impl.G, impl.MaxMod, impl.MaxShares)
	}
	if !isPrime(impl.P) || !isPrime(impl.Q) || bigPow(impl.G, impl.Q, impl.P) != 1 {
		t.Error("not as many powers as are told")
	}
}

func TestPowMod(t *testing.T) {
	const top = impl.MaxMod
	rows := []struct {
		b, e, m int64
		want    int64
		ok      bool
	}{
		{3, 4, 5, 1, true},
		{2, 10, 1000, 24, true},
		{0, 0, 0, 0, false}, {0, 0, -1, 0, false}, {0, 1, math.MinInt64, 0, false}, {-3, 1, -2, 0, false},
		{0, 0, 1, 0, true}, {0, 1, 1, 0, true}, {0, math.MaxInt64, 1, 0, true},
		{1, 0, 1, 0, false}, {-1, 0, 1, 0, false},
		{0, 0, 2, 1, true}, {0, 1, 2, 0, true}, {1, 0, 2, 1, true}, {1, 1, 2, 1, true}, {1, math.MaxInt64, 2, 1, true},
		{2, 0, 2, 0, false}, {2, 1, 2, 0, false}, {-1, 2, 2, 0, false},
		{0, 0, top, 1, true}, {0, 5, top, 0, true}, {top - 1, 0, top, 1, true}, {top - 1, 1, top, top - 1, true},
		{top - 1, 2, top, 1, true}, {top - 1, math.MaxInt64, top, top - 1, true}, {top - 1, math.MaxInt64 - 1, top, 1, true},
		{2, 31, top, 0, true}, {2, 30, top, 1 << 30, true}, {3, 2, top, 9, true},
		{top, 1, top, 0, false}, {top, 0, top, 0, false}, {math.MaxInt64, 1, top, 0, false},
		{0, 0, top + 1, 0, false}, {2, 3, top + 1, 0, false}, {2, 3, math.MaxInt64, 0, false},
		{5, 2, 5, 0, false}, {6, 2, 5, 0, false}, {4, 2, 5, 1, true}, {4, 3, 5, 4, true},
		{-1, 2, 5, 0, false}, {-4, 1, 5, 0, false}, {math.MinInt64, 1, 5, 0, false},
		{2, -1, 5, 0, false}, {2, math.MinInt64, 5, 0, false}, {0, -1, 1, 0, false},
		{2, math.MaxInt64, 5, 3, true},
	}
	for _, row := range rows {
		if got, ok := impl.PowMod(row.b, row.e, row.m); got != row.want || ok != row.ok {
			t.Error(row.b, "to the", row.e, "modulo", row.m, "got", got, ok)
		}
	}
}

func TestPowModOfAnyNumbers(t *testing.T) {
	for m := int64(1); m < 20; m++ {
		for b := range m {
			want := 1 % m
			for e := range int64(30) {
				if got, ok := impl.PowMod(b, e, m); !ok || got != want {
					t.Fatal(b, e, m, "got", got, ok)
				}
				want = want * b % m
			}
		}
	}
	r := rand.New(rand.NewSource(71))
	for range 3000 {
		m := 1 + r.Int63n(impl.MaxMod)
		if r.Intn(2) == 0 {
			m = impl.MaxMod - r.Int63n(1000)
		}
		b, e := m-1-r.Int63n(m), r.Int63()>>r.Intn(63)
		if got, ok := impl.PowMod(b, e, m); !ok || got != bigPow(b, e, m) {
			t.Fatal(b, e, m, "got", got, ok)
		}
	}
}

func TestInverse(t *testing.T) {
	const top = impl.MaxMod
	rows := []struct {
		a, m int64
		want int64
		ok   bool
	}{
		{3, 7, 5, true}, {4, 6, 0, false}, {6, 9, 0, false}, {14, 21, 0, false},
		{1, 0, 0, false}, {0, 0, 0, false}, {0, 1, 0, false}, {1, 1, 0, false}, {1, -1, 0, false}, {1, math.MinInt64, 0, false}, {-3, -2, 0, false},
		{0, 2, 0, false}, {1, 2, 1, true}, {2, 2, 0, false}, {3, 2, 0, false}, {-1, 2, 0, false},
		{0, top, 0, false}, {1, top, 1, true}, {2, top, 0, false}, {3, top, 715827883, true}, {top - 1, top, top - 1, true}, {top, top, 0, false},
		{1 << 30, top, 0, false},
		{1, top + 1, 0, false}, {2, top + 1, 0, false}, {1, math.MaxInt64, 0, false},
		{-1, 7, 0, false}, {0, 7, 0, false}, {6, 7, 6, true}, {7, 7, 0, false}, {8, 7, 0, false},
		{math.MinInt64, 7, 0, false}, {math.MaxInt64, 7, 0, false},
		{impl.G, impl.P, 250000002, true}, {impl.Q - 1, impl.Q, impl.Q - 1, true},
	}
	for _, row := range rows {
		if got, ok := impl.Inverse(row.a, row.m); got != row.want || ok != row.ok {
			t.Error(row.a, "modulo", row.m, "got", got, ok)
		}
	}
}

func TestInverseOfAnyNumbers(t *testing.T) {
	for m := int64(-2); m < 70; m++ {
		for a := int64(-3); a < m+3; a++ {
			want := int64(0)
			for x := int64(1); x < m && a > 0 && a < m; x++ {
				if a*x%m == 1 {
					want = x
				}
			}
			if got, ok := impl.Inverse(a, m); got != want || ok != (want > 0) {
				t.Fatal(a, m, "got", got, ok, "want", want)
			}
		}
	}
	r := rand.New(rand.NewSource(72))
	for range 3000 {
		m := impl.MaxMod - r.Int63n(1<<r.Intn(31))
		a := 1 + r.Int63n(m-1)
		want := new(big.Int).ModInverse(big.NewInt(a), big.NewInt(m))
		got, ok := impl.Inverse(a, m)
		if ok != (want != nil) || ok && got != want.Int64() || !ok && got != 0 {
			t.Fatal(a, m, "got", got, ok, "want", want)
		}
	}
}

// noSecrets are numbers that are no secrets, noExponents ones that are not in 0 .. Q - 1.
var noSecrets = []int64{math.MinInt64, -impl.Q, -1, 0, impl.Q, impl.Q + 1, impl.P, math.MaxInt64}
var noExponents = []int64{math.MinInt64, -impl.Q, -1, impl.Q, impl.Q + 1, 2 * impl.Q, math.MaxInt64}

// noKeys are numbers that are no members of the group, and 1. (5 is no power of 4 there.)
var noKeys = []int64{math.MinInt64, -4, -1, 0, 1, 5, impl.P - 4, impl.P - 1, impl.P, impl.P + 4, math.MaxInt64}

func TestKeyOf(t *testing.T) {
	for _, x := range noSecrets {
		if y := impl.KeyOf(x); y != 0 {
			t.Error("no secret:", x, y)
		}
	}
	r := rand.New(rand.NewSource(73))
	secrets := []int64{1, 2, 5, impl.Q - 2, impl.Q - 1}
	for range 500 {
		secrets = append(secrets, anySecret(r))
	}
	for _, x := range secrets {
		y := impl.KeyOf(x)
		if y != bigPow(4, x, impl.P) || y <= 1 || bigPow(y, impl.Q, impl.P) != 1 {
			t.Error("key of", x, y)
		}
	}
	if impl.KeyOf(1) != 4 || impl.KeyOf(5) != 1024 || impl.KeyOf(impl.Q-1) != 250000002 {
		t.Error("keys", impl.KeyOf(1), impl.KeyOf(5), impl.KeyOf(impl.Q-1))
	}
}

// told is HashAll of a word's bytes and other parts, modulo m.
func told(m uint64, word string, parts ...[]byte) int64 {
	return int64(impl.HashAll(append([][]byte{[]byte(word)}, parts...)) % m)
}

func TestChallenge(t *testing.T) {
	for _, a := range []int64{math.MinInt64, -1, 0, 1, 4, 127, 128, impl.P, math.MaxInt64} {
		for _, b := range []int64{math.MinInt64, 0, 16, 300, math.MaxInt64} {
			for _, msg := range [][]byte{nil, {0}, []byte("m"), bytes.Repeat([]byte{200}, 300)} {
				want := told(impl.Q, "challenge", impl.PutNum(a), impl.PutNum(b), msg)
				if got := impl.Challenge(a, b, msg); got != want || got < 0 || got >= impl.Q {
					t.Fatal(a, b, msg, "got", got, "want", want)
				}
			}
		}
	}
	if impl.Challenge(4, 16, []byte("m")) != 222490463 || impl.Challenge(4, 16, []byte("m")) == impl.Challenge(16, 4, []byte("m")) {
		t.Error("the first is not told apart from the second")
	}
}

func TestWhatASecretSignsIsTakenWithItsKey(t *testing.T) {
	r := rand.New(rand.NewSource(74))
	secrets := []int64{1, 2, 5, impl.Q - 2, impl.Q - 1}
	for range 60 {
		secrets = append(secrets, anySecret(r))
	}
	for i, x := range secrets {
		y, other := impl.KeyOf(x), impl.KeyOf(secrets[(i+1)%len(secrets)])
		for _, msg := range [][]byte{nil, {0}, []byte("hi"), bytes.Repeat([]byte{9}, 5000), anyMsg(r)} {
			k := 1 + told(impl.Q-1, "nonce", impl.PutNum(x), msg)
			e := impl.Challenge(bigPow(4, k, impl.P), y, msg)
			s, ok := impl.Sign(x, msg)
			if !ok || s.E != e || s.S != modQ([]int64{k}, []int64{e, x}) {
				t.Fatal("secret", x, "text", msg, "got", s, ok)
			}
			if !impl.Verify(y, msg, s) {
				t.Fatal("not taken: secret", x, "text", msg)
			}
			if impl.Verify(other, msg, s) || impl.Verify(y, append(bytes.Clone(msg), 0), s) || impl.Verify(y, append([]byte{1}, msg...), s) {
				t.Fatal("taken with another key, or of another text: secret", x, "text", msg)
			}
		}
	}
	if s, _ := impl.Sign(5, []byte("hi")); s != (impl.Sig{E: 16458344, S: 177439650}) {
		t.Error("hi, signed by 5", s)
	}
	for _, x := range noSecrets {
		if s, ok := impl.Sign(x, []byte("hi")); ok || s != (impl.Sig{}) {
			t.Error("no secret:", x, s, ok)
		}
	}
}

func TestSignaturesThatAreTurned(t *testing.T) {
	msg := []byte("hi")
	s, _ := impl.Sign(5, msg)
	turned := []impl.Sig{{}, {E: s.S, S: s.E}, {E: s.E, S: 0}, {E: 0, S: s.S}, {E: impl.Q - s.E, S: s.S}, {E: s.E, S: impl.Q - s.S}}
	for _, by := range []int64{-impl.Q, -1, 1, impl.Q, impl.P} {
		turned = append(turned, impl.Sig{E: s.E + by, S: s.S}, impl.Sig{E: s.E, S: s.S + by}, impl.Sig{E: s.E + by, S: s.S + by})
	}
	for _, n := range append([]int64{0, impl.Q - 1}, noExponents...) {
		turned = append(turned, impl.Sig{E: n, S: s.S}, impl.Sig{E: s.E, S: n}, impl.Sig{E: n, S: n})
	}
	for _, other := range turned {
		if impl.Verify(1024, msg, other) {
			t.Error("taken:", other)
		}
	}
	for bit := range 16 {
		other := bytes.Clone(msg)
		other[bit/8] ^= 1 << (bit % 8)
		if impl.Verify(1024, other, s) {
			t.Error("taken of", other)
		}
	}
	for _, text := range [][]byte{nil, []byte("h"), []byte("hi "), []byte("ih")} {
		if impl.Verify(1024, text, s) {
			t.Error("taken of", text)
		}
	}
}

// The numbers of these were looked for at length: there are few texts whose E or S is at its limit.
func TestSignaturesAtTheirLimits(t *testing.T) {
	rows := []struct {
		msg string
		s   impl.Sig
	}{
		{"d", impl.Sig{E: 0, S: 20269576}},
		{"g", impl.Sig{E: impl.Q - 1, S: 48550346}},
		{"d", impl.Sig{E: 77513409, S: 0}},
		{"c", impl.Sig{E: 386850348, S: impl.Q - 1}},
	}
	for _, row := range rows {
		if !impl.Verify(1024, []byte(row.msg), row.s) {
			t.Error("not taken:", row.msg, row.s)
		}
		for _, by := range []int64{-impl.Q, -1, 1, impl.Q} {
			if impl.Verify(1024, []byte(row.msg), impl.Sig{E: row.s.E + by, S: row.s.S}) || impl.Verify(1024, []byte(row.msg), impl.Sig{E: row.s.E, S: row.s.S + by}) {
				t.Error("taken:", row.msg, row.s, "turned by", by)
			}
		}
	}
}

// forged signs by the rule, with x as the secret, what is then held to y, whatever that is.
func forged(x int64, k int64, y int64, msg []byte) impl.Sig {
	e := impl.Challenge(bigPow(4, k, impl.P), y, msg)
	return impl.Sig{E: e, S: modQ([]int64{k}, []int64{e, x})}
}

func TestSignaturesOfWhatIsNoKey(t *testing.T) {
	key := impl.KeyOf(77)
	for k := int64(1); k < 40; k++ {
		msg := impl.PutNum(k)
		if !impl.Verify(key, msg, forged(77, k, key, msg)) {
			t.Fatal("the rule is another", k)
		}
		for _, y := range []int64{impl.P - key, key + impl.P, key - impl.P} {
			if impl.Verify(y, msg, forged(77, k, y, msg)) {
				t.Error("no member, but taken:", y)
			}
		}
		if impl.Verify(1, msg, forged(0, k, 1, msg)) || impl.Verify(impl.P-1, msg, forged(0, k, impl.P-1, msg)) {
			t.Error("anybody signs for 1, or for what is 1 less than P")
		}
		for _, y := range noKeys {
			if impl.Verify(y, msg, forged(77, k, y, msg)) || impl.Verify(y, msg, impl.Sig{}) {
				t.Error("no key, but taken:", y)
			}
		}
	}
}

func TestBlindAskIsTheStatedOne(t *testing.T) {
	r := rand.New(rand.NewSource(75))
	edges := []int64{0, 1, impl.Q - 1}
	for i := range 200 {
		y, was, msg := impl.KeyOf(anySecret(r)), impl.KeyOf(anySecret(r)), anyMsg(r)
		a, b := r.Int63n(impl.Q), r.Int63n(impl.Q)
		if i < 9 {
			a, b = edges[i/3], edges[i%3]
		}
		now := new(big.Int).Mul(big.NewInt(was), big.NewInt(bigPow(4, a, impl.P)))
		now.Mul(now, big.NewInt(bigPow(y, impl.Q-b, impl.P))).Mod(now, big.NewInt(impl.P))
		want := impl.Challenge(now.Int64(), y, msg)
		ask, e, ok := impl.BlindAsk(y, was, msg, a, b)
		if !ok || e != want || ask != modQ([]int64{e}, []int64{-1, b}) {
			t.Fatal(y, was, msg, a, b, "got", ask, e, ok)
		}
	}
}

func TestBlindCallsAtTheirLimits(t *testing.T) {
	ask := func(y, r, a, b int64) bool {
		first, e, ok := impl.BlindAsk(y, r, []byte("m"), a, b)
		return ok || first != 0 || e != 0
	}
	for _, y := range []int64{4, 1024, impl.KeyOf(impl.Q - 1)} {
		for _, n := range []int64{0, 1, impl.Q - 1} {
			if !ask(y, 4, n, 2) || !ask(y, 4, 2, n) || !ask(4, y, n, n) {
				t.Error("refused:", y, n)
			}
		}
	}
	for _, n := range noKeys {
		if ask(n, 4, 1, 2) || ask(4, n, 1, 2) || ask(n, n, 1, 2) {
			t.Error("no key, but asked:", n)
		}
	}
	for _, n := range noExponents {
		if ask(4, 16, n, 2) || ask(4, 16, 1, n) {
			t.Error("out of its bounds, but asked:", n)
		}
		if s, ok := impl.BlindAnswer(5, 10, n); ok || s != 0 {
			t.Error("answered to", n, s)
		}
		for _, list := range [][]int64{{n, 3, 7}, {5, n, 7}, {5, 3, n}} {
			if s, ok := impl.BlindDone(list[0], list[1], list[2]); ok || s != (impl.Sig{}) {
				t.Error("done with", list, s)
			}
		}
	}
	for _, n := range noSecrets {
		if s, ok := impl.BlindAnswer(n, 10, 3); ok || s != 0 {
			t.Error("answered with the secret", n, s)
		}
		if s, ok := impl.BlindAnswer(5, n, 3); ok || s != 0 {
			t.Error("answered with the k", n, s)
		}
	}
}

func TestBlindAnswersAndDone(t *testing.T) {
	const top = impl.Q - 1
	for _, row := range [][]int64{{1, 1, 0}, {1, 1, 1}, {5, 10, 3}, {top, 1, 1}, {1, top, 1}, {1, top, 0}, {top, top, top}, {2, top, top}, {top, 1, top}} {
		want := modQ([]int64{row[1]}, []int64{row[2], row[0]})
		if s, ok := impl.BlindAnswer(row[0], row[1], row[2]); !ok || s != want {
			t.Error("answer", row, s, ok, "want", want)
		}
	}
	for _, row := range [][]int64{{0, 0, 0}, {5, 3, 7}, {top, 0, 0}, {top, 1, 5}, {1, top, top}, {top, top, 0}, {0, top, 1}} {
		want := impl.Sig{E: row[2], S: modQ([]int64{row[0]}, []int64{row[1]})}
		if s, ok := impl.BlindDone(row[0], row[1], row[2]); !ok || s != want {
			t.Error("done", row, s, ok, "want", want)
		}
	}
}

// asking is one signature that was asked for blindly: what the owner saw, and what came of it.
type asking struct {
	r, ask, answer int64
	msg            []byte
	sig            impl.Sig
}

func askBlindly(t *testing.T, x int64, k int64, msg []byte, a int64, b int64) asking {
	t.Helper()
	out := asking{r: impl.KeyOf(k), msg: msg}
	var e int64
	var asked, answered, done bool
	out.ask, e, asked = impl.BlindAsk(impl.KeyOf(x), out.r, msg, a, b)
	out.answer, answered = impl.BlindAnswer(x, k, out.ask)
	out.sig, done = impl.BlindDone(out.answer, a, e)
	if !asked || !answered || !done {
		t.Fatal("refused:", x, k, msg, a, b)
	}
	return out
}

func TestWhatIsAskedBlindlyIsTaken(t *testing.T) {
	r := rand.New(rand.NewSource(76))
	edges := []int64{0, 1, impl.Q - 1}
	for i := range 150 {
		x, k, a, b := anySecret(r), anySecret(r), r.Int63n(impl.Q), r.Int63n(impl.Q)
		if i < 9 {
			a, b = edges[i/3], edges[i%3]
		}
		if i%10 == 0 {
			x, k = impl.Q-1, 1
		}
		one := askBlindly(t, x, k, anyMsg(r), a, b)
		if !impl.Verify(impl.KeyOf(x), one.msg, one.sig) {
			t.Fatal("not taken:", x, k, one, a, b)
		}
		if impl.Verify(impl.KeyOf(x), append(bytes.Clone(one.msg), 1), one.sig) {
			t.Fatal("taken of another text:", x, k, one, a, b)
		}
	}
}

// What the owner saw of one asking fits each signature equally well: for each of them there
// are an a and a b with which just this would have been asked.
func TestTheOwnerHasSeenNothingOfASignature(t *testing.T) {
	r := rand.New(rand.NewSource(77))
	x := int64(123456)
	y := impl.KeyOf(x)
	var list []asking
	for range 12 {
		list = append(list, askBlindly(t, x, anySecret(r), anyMsg(r), r.Int63n(impl.Q), r.Int63n(impl.Q)))
	}
	for i, seen := range list {
		if seen.ask == seen.sig.E || seen.answer == seen.sig.S || impl.Verify(y, seen.msg, impl.Sig{E: seen.ask, S: seen.answer}) {
			t.Error("the owner saw the signature", seen)
		}
		for k, came := range list {
			a := modQ([]int64{came.sig.S}, []int64{-1, seen.answer})
			b := modQ([]int64{came.sig.E}, []int64{-1, seen.ask})
			if ask, e, ok := impl.BlindAsk(y, seen.r, came.msg, a, b); !ok || ask != seen.ask || e != came.sig.E {
				t.Error("asking", i, "can't have led to the signature", k)
			}
		}
	}
}

// valueOf is f(z) by powers, as the document tells it.
func valueOf(secret int64, more []int64, z int64) int64 {
	products := [][]int64{{secret}}
	power := []int64{}
	for _, c := range more {
		power = append(power, z)
		products = append(products, append([]int64{c}, power...))
	}
	return modQ(products...)
}

func manyNumbers(count int, n int64) []int64 { return slices.Repeat([]int64{n}, count) }

func TestDeal(t *testing.T) {
	const top = impl.Q - 1
	rows := []struct {
		secret int64
		more   []int64
		n      int64
	}{
		{5, []int64{2}, 3}, {0, nil, 1}, {0, []int64{}, 20}, {top, nil, 20}, {1, []int64{0}, 20}, {top, []int64{top}, 20}, {0, []int64{0, 0, 1}, 20},
		{7, []int64{1, 2, 3}, 1}, {7, []int64{1, 2, 3}, 2}, {3, manyNumbers(18, 9), 20}, {top, manyNumbers(19, top), 20}, {0, manyNumbers(19, 0), 1}, {1, manyNumbers(19, top), 19},
	}
	for _, row := range rows {
		list, ok := impl.Deal(row.secret, row.more, row.n)
		if !ok || int64(len(list)) != row.n {
			t.Error(row, "got", list, ok)
			continue
		}
		for i, s := range list {
			if s.At != int64(i)+1 || s.Value != valueOf(row.secret, row.more, s.At) {
				t.Error(row, "share", i, "got", s)
			}
		}
	}
}

func TestDealRefuses(t *testing.T) {
	refused := func(secret int64, more []int64, n int64) {
		t.Helper()
		if list, ok := impl.Deal(secret, more, n); ok || len(list) != 0 {
			t.Error(secret, more, n, "got", list, ok)
		}
	}
	for _, x := range noExponents {
		refused(x, []int64{2}, 3)
		refused(5, []int64{x}, 3)
		refused(5, []int64{1, 2, x}, 3)
		refused(5, []int64{x, 1, 2}, 3)
	}
	for _, n := range []int64{math.MinInt64, -1, 0, 21, math.MaxInt64} {
		refused(5, []int64{2}, n)
		refused(5, nil, n)
	}
	refused(5, manyNumbers(20, 1), 20)
	refused(5, manyNumbers(20, 0), 3)
	refused(5, manyNumbers(3000, 1), 20)
}

// atZero is the value at 0 of the least f with these shares, each weighed by the document's words.
func atZero(list []impl.Share) int64 {
	var products [][]int64
	for _, s := range list {
		product := []int64{s.Value}
		for _, other := range list {
			if other != s {
				product = append(product, byQ(other.At, other.At-s.At))
			}
		}
		products = append(products, product)
	}
	return modQ(products...)
}

func anyPoly(r *rand.Rand, count int) []int64 {
	more := make([]int64, count)
	for i := range more {
		more[i] = anySecret(r)
	}
	return more
}

func TestSharesThatAreEnoughHaveTheSecret(t *testing.T) {
	r := rand.New(rand.NewSource(78))
	for i := range 200 {
		secret, more := r.Int63n(impl.Q), anyPoly(r, i%20)
		list, _ := impl.Deal(secret, more, impl.MaxShares)
		enough := len(more) + 1
		for count := 1; count <= impl.MaxShares; count++ {
			r.Shuffle(len(list), func(a, b int) { list[a], list[b] = list[b], list[a] })
			got, ok := impl.Restore(list[:count])
			if !ok || count >= enough && got != secret {
				t.Fatal(secret, more, list[:count], "got", got, ok)
			}
			if count < enough && (got == secret || got != atZero(list[:count])) {
				t.Fatal("too few:", secret, more, list[:count], "got", got)
			}
		}
	}
}

func TestRestore(t *testing.T) {
	const top = impl.Q - 1
	rows := []struct {
		list []impl.Share
		want int64
	}{
		{[]impl.Share{{At: 3, Value: 11}, {At: 1, Value: 7}}, 5},
		{[]impl.Share{{At: 1, Value: 7}, {At: 2, Value: 9}, {At: 3, Value: 11}}, 5},
		{[]impl.Share{{At: 2, Value: 9}}, 9},
		{[]impl.Share{{At: 1, Value: 0}}, 0},
		{[]impl.Share{{At: top, Value: top}}, top},
		{[]impl.Share{{At: 1, Value: top}, {At: 2, Value: top}}, top},
		{[]impl.Share{{At: 1, Value: 8}, {At: 2, Value: 9}}, 7},
		{[]impl.Share{{At: 1, Value: 7}, {At: 2, Value: 9}, {At: 3, Value: 12}}, 6},
		{[]impl.Share{{At: top, Value: 3}, {At: 1, Value: 5}}, 4},
		{[]impl.Share{{At: top, Value: 0}, {At: 1, Value: 0}}, 0},
	}
	for _, row := range rows {
		if got, ok := impl.Restore(row.list); !ok || got != row.want {
			t.Error(row.list, "got", got, ok, "want", row.want)
		}
	}
}

func TestRestoreRefuses(t *testing.T) {
	refused := func(list ...impl.Share) {
		t.Helper()
		if got, ok := impl.Restore(list); ok || got != 0 {
			t.Error(list, "got", got, ok)
		}
	}
	refused()
	good := impl.Share{At: 1, Value: 7}
	for _, at := range noSecrets {
		refused(impl.Share{At: at, Value: 9})
		refused(good, impl.Share{At: at, Value: 9})
		refused(impl.Share{At: at, Value: 9}, good)
	}
	for _, value := range noExponents {
		refused(impl.Share{At: 2, Value: value})
		refused(good, impl.Share{At: 2, Value: value})
		refused(impl.Share{At: 2, Value: value}, good)
	}
	refused(good, good)
	refused(good, impl.Share{At: 1, Value: 8})
	refused(good, impl.Share{At: 2, Value: 7}, good)
	refused(impl.Share{At: 3}, impl.Share{At: 2}, good, impl.Share{At: 2})
	list, _ := impl.Deal(5, nil, 20)
	if got, ok := impl.Restore(list); !ok || got != 5 {
		t.Error("MaxShares shares", got, ok)
	}
	refused(append(list, impl.Share{At: 21, Value: 5})...)
	refused(make([]impl.Share, 5000)...)
}

func TestLambda(t *testing.T) {
	rows := []struct {
		who  []int64
		i    int64
		want int64
	}{
		{[]int64{1, 2}, 1, 2}, {[]int64{1, 2}, 2, impl.Q - 1}, {[]int64{2, 1}, 1, 2}, {[]int64{1, 3}, 3, 250000001},
		{[]int64{7}, 7, 1}, {[]int64{impl.Q - 1}, impl.Q - 1, 1}, {[]int64{1, 2, 3}, 1, 3}, {[]int64{1, 2, 3}, 2, impl.Q - 3}, {[]int64{3, 2, 1}, 3, 1},
		{[]int64{1, impl.Q - 1}, 1, 250000002}, {[]int64{1, impl.Q - 1}, impl.Q - 1, 250000002},
	}
	for _, row := range rows {
		if got, ok := impl.Lambda(row.who, row.i); !ok || got != row.want {
			t.Error(row.who, row.i, "got", got, ok, "want", row.want)
		}
	}
}

func TestLambdaOfAnyPlaces(t *testing.T) {
	r := rand.New(rand.NewSource(79))
	for round := range 200 {
		var who []int64
		for len(who) < 1+round%20 {
			if at := 1 + r.Int63n(impl.Q>>r.Intn(25)-1); !slices.Contains(who, at) {
				who = append(who, at)
			}
		}
		sum := int64(0)
		for _, i := range who {
			product := []int64{1}
			for _, j := range who {
				if j != i {
					product = append(product, byQ(j, j-i))
				}
			}
			got, ok := impl.Lambda(who, i)
			if !ok || got != modQ(product) {
				t.Fatal(who, i, "got", got, ok)
			}
			sum += got
		}
		if sum%impl.Q != 1 {
			t.Fatal(who, "what is the same everywhere is weighed as", sum%impl.Q)
		}
	}
}

func oneTo(n int64) []int64 {
	var list []int64
	for i := range n {
		list = append(list, i+1)
	}
	return list
}

// noPlaces are lists of places that are none for who works out the value at 0; 1 is in most of them.
func noPlaces() [][]int64 {
	list := [][]int64{nil, {}, {1, 1}, {2, 2}, {1, 2, 1}, {2, 1, 2}, {1, 2, 3, 2}, oneTo(21), manyNumbers(3000, 1)}
	for _, at := range noSecrets {
		list = append(list, []int64{at}, []int64{1, at}, []int64{at, 1})
	}
	return list
}

func TestLambdaRefuses(t *testing.T) {
	for _, who := range noPlaces() {
		for _, i := range append([]int64{1, 2}, who[:min(len(who), 3)]...) {
			if got, ok := impl.Lambda(who, i); ok || got != 0 {
				t.Error(who, i, "got", got, ok)
			}
		}
	}
	for _, i := range append([]int64{4, impl.Q - 1, impl.Q + 1, 1 - impl.Q}, noSecrets...) {
		if got, ok := impl.Lambda([]int64{1, 2, 3}, i); ok || got != 0 {
			t.Error(i, "is none of them, but got", got, ok)
		}
	}
	if got, ok := impl.Lambda(oneTo(20), 20); !ok || got != impl.Q-1 {
		t.Error("MaxShares places", got, ok)
	}
}

func TestSignPart(t *testing.T) {
	const top = impl.Q - 1
	rows := []struct {
		s    impl.Share
		who  []int64
		k, e int64
	}{
		{impl.Share{At: 1, Value: 7}, []int64{1, 2}, 10, 3},
		{impl.Share{At: 1, Value: 0}, []int64{1, 2}, 1, 0},
		{impl.Share{At: 2, Value: top}, []int64{1, 2}, top, top},
		{impl.Share{At: 9, Value: top}, []int64{9}, top, top},
		{impl.Share{At: top, Value: 5}, []int64{top, 3}, 1, top},
		{impl.Share{At: 20, Value: top}, oneTo(20), top, top},
		{impl.Share{At: 7, Value: top}, oneTo(20), 1, 1},
	}
	for _, row := range rows {
		weight, _ := impl.Lambda(row.who, row.s.At)
		want := modQ([]int64{row.k}, []int64{row.e, weight, row.s.Value})
		if got, ok := impl.SignPart(row.s, row.who, row.k, row.e); !ok || got != want {
			t.Error(row, "got", got, ok, "want", want)
		}
	}
	if got, _ := impl.SignPart(rows[0].s, rows[0].who, 10, 3); got != 52 {
		t.Error("10 + 3 * 2 * 7", got)
	}
}

func TestSignPartRefuses(t *testing.T) {
	refused := func(s impl.Share, who []int64, k int64, e int64) {
		t.Helper()
		if got, ok := impl.SignPart(s, who, k, e); ok || got != 0 {
			t.Error(s, who, k, e, "got", got, ok)
		}
	}
	good := impl.Share{At: 1, Value: 7}
	for _, who := range noPlaces() {
		refused(good, who, 10, 3)
	}
	refused(good, []int64{2, 3}, 10, 3)
	for _, n := range noSecrets {
		refused(impl.Share{At: n, Value: 7}, []int64{1, 2}, 10, 3)
		refused(impl.Share{At: n, Value: 7}, []int64{1, 2, n}, 10, 3)
		refused(good, []int64{1, 2}, n, 3)
	}
	for _, n := range noExponents {
		refused(impl.Share{At: 1, Value: n}, []int64{1, 2}, 10, 3)
		refused(good, []int64{1, 2}, 10, n)
	}
}

func TestSignJoin(t *testing.T) {
	const top = impl.Q - 1
	for _, parts := range [][]int64{{0}, {top}, {52, 1}, {top, 1}, {top, top, top}, manyNumbers(20, top), manyNumbers(19, 3), oneTo(20)} {
		var products [][]int64
		for _, part := range parts {
			products = append(products, []int64{part})
		}
		for _, e := range []int64{0, 3, top} {
			want := impl.Sig{E: e, S: modQ(products...)}
			if got, ok := impl.SignJoin(parts, e); !ok || got != want {
				t.Error(parts, e, "got", got, ok, "want", want)
			}
		}
	}
	refused := func(parts []int64, e int64) {
		t.Helper()
		if got, ok := impl.SignJoin(parts, e); ok || got != (impl.Sig{}) {
			t.Error(parts, e, "got", got, ok)
		}
	}
	refused(nil, 3)
	refused([]int64{}, 0)
	refused(manyNumbers(21, 1), 3)
	refused(manyNumbers(3000, 0), 3)
	for _, n := range noExponents {
		refused([]int64{52, 1}, n)
		refused([]int64{n}, 3)
		refused([]int64{n, 1}, 3)
		refused([]int64{52, 1, n}, 3)
	}
}

// signedBy is what these custodians sign together, by the document's words, and the sum of their ks.
func signedBy(t *testing.T, r *rand.Rand, list []impl.Share, key int64, msg []byte) (impl.Sig, int64) {
	t.Helper()
	var who, ks, parts []int64
	joined, sum := big.NewInt(1), int64(0)
	for _, s := range list {
		k := anySecret(r)
		who, ks = append(who, s.At), append(ks, k)
		joined.Mul(joined, big.NewInt(impl.KeyOf(k))).Mod(joined, big.NewInt(impl.P))
		sum = (sum + k) % impl.Q
	}
	e := impl.Challenge(joined.Int64(), key, msg)
	for i, s := range list {
		part, ok := impl.SignPart(s, who, ks[i], e)
		if !ok {
			t.Fatal("no part of", s, who)
		}
		parts = append(parts, part)
	}
	sig, ok := impl.SignJoin(parts, e)
	if !ok {
		t.Fatal("not joined:", parts, e)
	}
	return sig, sum
}

func TestCustodiansSignTogetherAsTheSecretWould(t *testing.T) {
	r := rand.New(rand.NewSource(80))
	for i := range 120 {
		secret, more, msg := anySecret(r), anyPoly(r, i%20), anyMsg(r)
		if i%7 == 0 {
			secret = impl.Q - 1
		}
		list, _ := impl.Deal(secret, more, impl.MaxShares)
		r.Shuffle(len(list), func(a, b int) { list[a], list[b] = list[b], list[a] })
		enough := len(more) + 1
		key := impl.KeyOf(secret)
		for _, count := range []int{enough, impl.MaxShares} {
			sig, k := signedBy(t, r, list[:count], key, msg)
			if !impl.Verify(key, msg, sig) || sig.S != modQ([]int64{k}, []int64{sig.E, secret}) {
				t.Fatal("not taken:", secret, more, list[:count], sig)
			}
			if impl.Verify(key, append(bytes.Clone(msg), 7), sig) {
				t.Fatal("taken of another text:", secret, more, sig)
			}
		}
		if enough > 1 {
			if sig, _ := signedBy(t, r, list[:enough-1], key, msg); impl.Verify(key, msg, sig) {
				t.Fatal("too few, but taken:", secret, more, list[:enough-1], sig)
			}
		}
		list[0].Value = (list[0].Value + 1) % impl.Q
		if sig, _ := signedBy(t, r, list[:enough], key, msg); impl.Verify(key, msg, sig) {
			t.Fatal("another share, but taken:", secret, more, list[:enough], sig)
		}
	}
}
