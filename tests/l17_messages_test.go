package tests

import (
	"bytes"
	"math"
	"math/rand"
	"slices"
	"testing"

	"loop.example/g00041/impl"
)

func TestMessageConstants(t *testing.T) {
	if impl.MaxContent != 4000 || impl.MaxSigners != 6 || impl.MaxRounds != 1000 || impl.MgBad != 1 || impl.MgForm != 40 {
		t.Error("limits and codes of messages")
	}
	if impl.MsKey != 1 || impl.MsSig != 2 || impl.MsLate != 3 || impl.EnKey != 1 || impl.EnTag != 2 || impl.LkBad != 1 || impl.LkPass != 2 {
		t.Error("codes of signers, envelopes and stores")
	}
}

// wantSigned wants of SignMsg what each of list signs by itself.
func wantSigned(t *testing.T, content []byte, at int64, list []impl.Secret) {
	t.Helper()
	want := impl.Msg{Content: content}
	var left []impl.Secret
	for _, s := range list {
		want.Signers, left = append(want.Signers, signerBy(s, ofContent, content, at)), append(left, goesOn(s))
	}
	got, next, code := impl.SignMsg(content, at, list)
	if code != 0 || !sameMsg(got, want) || !slices.Equal(next, left) {
		t.Fatal(len(content), at, list, "got", got, next, code, "want", want, left)
	}
}

func wantUnsigned(t *testing.T, want int64, content []byte, at int64, list []impl.Secret) {
	t.Helper()
	if got, next, code := impl.SignMsg(content, at, list); code != want || !noMsg(got) || len(next) != 0 {
		t.Error(len(content), at, list, "got", got, next, code, "want", want)
	}
}

func TestSignMsg(t *testing.T) {
	signers := [][]impl.Secret{nil, {secretNo(1)}, {treeNo(3)}, headSecrets(), slices.Repeat([]impl.Secret{secretNo(2)}, 6), slices.Repeat([]impl.Secret{treeNo(2)}, 6), append(headSecrets(), secretNo(1), treeNo(8))}
	for _, size := range []int{0, 1, 63, 64, 65, 127, 128, 300, 3999, 4000} {
		for _, list := range signers {
			wantSigned(t, someText(size), 50, list)
		}
	}
	for _, at := range []int64{0, 1, 127, 128, impl.MaxTime - 1, impl.MaxTime} {
		wantSigned(t, someText(5), at, signers[3])
	}
	for _, s := range rightSecrets() {
		wantSigned(t, someText(9), 5, []impl.Secret{s})
	}
}

func TestSignMsgRefuses(t *testing.T) {
	good, wrong, used := secretNo(1), impl.Secret{}, usedUp(1)
	lists := [][]impl.Secret{nil, {good}, {wrong}, {used}, slices.Repeat([]impl.Secret{good}, 6)}
	for _, list := range lists {
		for _, size := range []int{4001, 20000, 50000} {
			wantUnsigned(t, impl.MgBad, make([]byte, size), 5, list)
		}
		for _, at := range []int64{math.MinInt64, -1, impl.MaxTime + 1, math.MaxInt64} {
			wantUnsigned(t, impl.MgBad, nil, at, list)
		}
	}
	for _, s := range []impl.Secret{good, wrong, used} {
		wantUnsigned(t, impl.MgBad, nil, 5, slices.Repeat([]impl.Secret{s}, 7))
		wantUnsigned(t, impl.MgBad, nil, 5, slices.Repeat([]impl.Secret{s}, 4000))
	}
	for _, s := range wrongSecrets() {
		wantUnsigned(t, 10+impl.TrKey, []byte("m"), 5, []impl.Secret{s})
		wantUnsigned(t, 10+impl.TrKey, []byte("m"), 5, []impl.Secret{good, treeNo(2), s})
	}
	for height := range int64(6) {
		wantUnsigned(t, 10+impl.TrEmpty, []byte("m"), 5, []impl.Secret{usedUp(height)})
		wantUnsigned(t, 10+impl.TrEmpty, []byte("m"), 5, []impl.Secret{treeNo(2), good, usedUp(height), good})
	}
	for at := range 6 {
		list := slices.Repeat([]impl.Secret{good}, 6)
		list[at] = wrong
		wantUnsigned(t, 10+impl.TrKey, nil, 5, list)
		list[at] = used
		wantUnsigned(t, 10+impl.TrEmpty, nil, 5, list)
	}
	wantUnsigned(t, 10+impl.TrKey, nil, 5, []impl.Secret{good, wrong, used})
	wantUnsigned(t, 10+impl.TrEmpty, nil, 5, []impl.Secret{good, used, wrong})
}

func TestAPlainMessageIsSignedAsTold(t *testing.T) {
	group := func(x uint64) impl.Secret { return impl.Secret{Scheme: impl.ScGroup, X: x} }
	m, _, code := impl.SignMsg([]byte("text"), 50, []impl.Secret{group(101)})
	first := impl.Signer{Key: 4991269664715585943, At: 50, Sig: []byte{234, 185, 234, 73, 129, 129, 235, 182, 4}}
	if want := (impl.Msg{Content: []byte("text"), Signers: []impl.Signer{first}}); code != 0 || !sameMsg(m, want) {
		t.Error("got", m, code)
	}
	over := impl.Signer{Key: 17439120345620209503, At: 60, Sig: []byte{129, 136, 222, 208, 120, 129, 234, 149, 159, 81}}
	first.Over = []impl.Signer{over}
	n, _, code := impl.CounterSign(m, 0, 60, group(103))
	if want := (impl.Msg{Content: []byte("text"), Signers: []impl.Signer{first}}); code != 0 || !sameMsg(n, want) {
		t.Error("over it: got", n, code)
	}
	if !bytes.Equal(slowSignedAt(ofContent, []byte("text"), 50), []byte{104, 9, 4, 4, 't', 'e', 'x', 't', 2, 1, 50}) {
		t.Error("what is signed")
	}
	if !bytes.Equal(slowSignedAt(ofSig, []byte{7, 8}, 200), []byte{105, 8, 4, 2, 7, 8, 2, 2, 0, 200}) {
		t.Error("what is signed over it")
	}
}

func TestSecretsOfOneListGoOnEachByItself(t *testing.T) {
	s := treeNo(2)
	m, next, code := impl.SignMsg([]byte("m"), 5, []impl.Secret{s, s, goesOn(s)})
	if code != 0 || !slices.Equal(next, []impl.Secret{goesOn(s), goesOn(s), goesOn(goesOn(s))}) {
		t.Fatal(next, code)
	}
	if !sameSigner(m.Signers[0], m.Signers[1]) || sameSigner(m.Signers[1], m.Signers[2]) {
		t.Error("the leaves that signed", m)
	}
	if out, ok := impl.MsgCheck(m, []impl.Pub{pubOfSecret(s)}, 5); !ok || !slices.Equal(out, []int64{0, 0, 0}) {
		t.Error(out, ok)
	}
	wantUnsigned(t, 10+impl.TrEmpty, []byte("m"), 5, next)
}

// wantOver wants of CounterSign the message with one more over the Signer i.
func wantOver(t *testing.T, why string, m impl.Msg, i int64, at int64, s impl.Secret) {
	t.Helper()
	want := changedMsg(m, func(m *impl.Msg) { m.Signers[i] = signedOver(m.Signers[i], s, at) })
	got, next, code := impl.CounterSign(m, i, at, s)
	if code != 0 || next != goesOn(s) || !sameMsg(got, want) {
		t.Fatal(why, i, at, s, "got", got, next, code, "want", want)
	}
}

func wantNotOver(t *testing.T, why string, want int64, m impl.Msg, i int64, at int64, s impl.Secret) {
	t.Helper()
	if got, next, code := impl.CounterSign(m, i, at, s); code != want || !noMsg(got) || next != (impl.Secret{}) {
		t.Error(why, i, at, s, "got", got, next, code, "want", want)
	}
}

func TestCounterSign(t *testing.T) {
	m := plainMsg()
	for i := range int64(3) {
		for _, s := range rightSecrets() {
			wantOver(t, "a secret", m, i, 140, s)
		}
		for _, at := range []int64{0, 1, 99, 128, impl.MaxTime - 1, impl.MaxTime} {
			wantOver(t, "a time", m, i, at, treeNo(6))
		}
	}
	for _, i := range append(farNumbers(), -1, 3, 4) {
		wantNotOver(t, "no position", impl.MgBad, m, i, 140, secretNo(7))
	}
	for _, at := range []int64{math.MinInt64, -1, impl.MaxTime + 1, math.MaxInt64} {
		wantNotOver(t, "no time", impl.MgBad, m, 0, at, secretNo(7))
	}
	for _, s := range wrongSecrets() {
		wantNotOver(t, "a wrong secret", 10+impl.TrKey, m, 2, 140, s)
	}
	for height := range int64(6) {
		wantNotOver(t, "used up", 10+impl.TrEmpty, m, 1, 140, usedUp(height))
	}
	unsigned := impl.Msg{Content: []byte("m")}
	for _, i := range []int64{-1, 0, 1} {
		wantNotOver(t, "no Signers", impl.MgBad, unsigned, i, 140, secretNo(7))
		wantNotOver(t, "nothing", impl.MgBad, impl.Msg{}, i, 140, secretNo(7))
	}
}

func TestCounterSignOfWhatIsNotSo(t *testing.T) {
	for _, row := range msgCases() {
		m := changedMsg(plainMsg(), row.change)
		if slowMsgOk(m) != row.right {
			t.Fatal(row.why, "is told wrongly")
		}
		count := int64(len(m.Signers))
		for _, i := range []int64{0, count - 1} {
			switch {
			case !row.right:
				for _, s := range []impl.Secret{secretNo(7), {}, usedUp(1)} {
					wantNotOver(t, row.why, impl.MgBad, m, i, 140, s)
				}
			case count == 0 || len(m.Signers[i].Over) == 6:
				wantNotOver(t, row.why, impl.MgBad, m, i, 140, secretNo(7))
			default:
				wantOver(t, row.why, m, i, 140, secretNo(7))
			}
		}
	}
	wantNotOver(t, "over itself", impl.MgBad, ownOver(), 0, 140, secretNo(7))
}

func TestOverThatIsFull(t *testing.T) {
	m := plainMsg()
	s := impl.Secret{Scheme: impl.ScTree, X: 9, Height: 3}
	for count := 2; count < 6; count++ {
		wantOver(t, "not full", m, 0, 200, s)
		m, s, _ = impl.CounterSign(m, 0, 200, s)
	}
	if len(m.Signers[0].Over) != 6 {
		t.Fatal("not full", m)
	}
	for _, s := range []impl.Secret{s, {}, usedUp(2)} {
		wantNotOver(t, "full", impl.MgBad, m, 0, 200, s)
	}
	wantOver(t, "another one", m, 1, 200, s)
	out, ok := impl.MsgCheck(m, append(plainKeys(), pubOfSecret(s)), 200)
	if !ok || !slices.Equal(out, make([]int64, 10)) {
		t.Error(out, ok)
	}
}

// A Sig need not be good to be signed over, nor need it be of the Content.
func TestWhatIsOverSignsTheSigAlone(t *testing.T) {
	m := impl.Msg{Content: []byte("a"), Signers: []impl.Signer{{Key: 1, At: 5}, {Key: 2, At: 6, Sig: []byte{7}}}}
	for i := range int64(2) {
		wantOver(t, "any Sig", m, i, 9, secretNo(1))
		n, _, _ := impl.CounterSign(m, i, 9, secretNo(1))
		n.Content = []byte("b")
		out, ok := impl.MsgCheck(n, []impl.Pub{pubNo(1)}, 9)
		want := slices.Insert([]int64{impl.MsKey, impl.MsKey}, int(i)+1, 0)
		if !ok || !slices.Equal(out, want) {
			t.Error(out, ok, "want", want)
		}
	}
}

func wantCodes(t *testing.T, why string, m impl.Msg, keys []impl.Pub, now int64, want ...int64) {
	t.Helper()
	if got, ok := impl.MsgCheck(m, keys, now); !ok || !slices.Equal(got, want) {
		t.Error(why, "got", got, ok, "want", want)
	}
	if got, ok := slowMsgCheck(m, keys, now); !ok || !slices.Equal(got, want) {
		t.Error(why, "the slow reading says", got, ok, "want", want)
	}
}

func TestMsgCheckTellsItsCodes(t *testing.T) {
	m, keys := plainMsg(), plainKeys()
	none := []int64{0, 0, 0, 0, 0, 0}
	// The places of the Signers and of what is over them, as MsgCheck tells them.
	parts := func(m *impl.Msg) []*impl.Signer {
		return []*impl.Signer{&m.Signers[0], &m.Signers[0].Over[0], &m.Signers[0].Over[1], &m.Signers[1], &m.Signers[2], &m.Signers[2].Over[0]}
	}
	wantCodes(t, "as it is", m, keys, 130, none...)
	for at := range 6 {
		bend := func(change func(s *impl.Signer)) impl.Msg {
			return changedMsg(m, func(m *impl.Msg) { change(parts(m)[at]) })
		}
		with := func(code int64) []int64 {
			out := slices.Clone(none)
			out[at] = code
			return out
		}
		wantCodes(t, "another Key", bend(func(s *impl.Signer) { s.Key ^= 1 }), keys, 130, with(impl.MsKey)...)
		wantCodes(t, "no Key", bend(func(s *impl.Signer) { s.Key = 0 }), keys, 130, with(impl.MsKey)...)
		wantCodes(t, "a bent At", bend(func(s *impl.Signer) { s.At-- }), keys, 130, with(impl.MsSig)...)
		wantCodes(t, "a bent At, above now", bend(func(s *impl.Signer) { s.At = 131 }), keys, 130, with(impl.MsSig)...)
		wantCodes(t, "an unknown Key, a Sig that is none, above now", bend(func(s *impl.Signer) { s.Key, s.At = 1, 131 }), keys, 130, with(impl.MsKey)...)
		id := parts(&m)[at].Key
		left := slices.DeleteFunc(slices.Clone(keys), func(p impl.Pub) bool { return impl.KeyId(p) == id })
		want := slices.Clone(none)
		for i, s := range parts(&m) {
			if s.Key == id {
				want[i] = impl.MsKey
			}
		}
		wantCodes(t, "a key is not there", m, left, 130, want...)
	}
	over := func(change func(s *impl.Signer)) impl.Msg {
		return changedMsg(m, func(m *impl.Msg) { change(&m.Signers[0].Over[0]) })
	}
	wantCodes(t, "a bent Sig over it", over(func(s *impl.Signer) { s.Sig[1] ^= 1 }), keys, 130, 0, impl.MsSig, 0, 0, 0, 0)
	wantCodes(t, "no Sig over it", over(func(s *impl.Signer) { s.Sig = nil }), keys, 130, 0, impl.MsSig, 0, 0, 0, 0)
	wantCodes(t, "another's Key over it", over(func(s *impl.Signer) { s.Key = impl.KeyId(pubNo(1)) }), keys, 130, 0, impl.MsSig, 0, 0, 0, 0)
	bentSig := changedMsg(m, func(m *impl.Msg) { m.Signers[0].Sig[1] ^= 1 })
	wantCodes(t, "a bent Sig", bentSig, keys, 130, impl.MsSig, impl.MsSig, impl.MsSig, 0, 0, 0)
	wantCodes(t, "another content", changedMsg(m, func(m *impl.Msg) { m.Content[69] ^= 128 }), keys, 130, impl.MsSig, 0, 0, impl.MsSig, impl.MsSig, 0)
	wantCodes(t, "no content", changedMsg(m, func(m *impl.Msg) { m.Content = nil }), keys, 130, impl.MsSig, 0, 0, impl.MsSig, impl.MsSig, 0)
	wantCodes(t, "one over another", changedMsg(m, func(m *impl.Msg) { m.Signers[1].Over = m.Signers[0].Over[:1] }), keys, 130, 0, 0, 0, 0, impl.MsSig, 0, 0)
	wantCodes(t, "who is over it as a Signer", changedMsg(m, func(m *impl.Msg) { m.Signers = m.Signers[0].Over }), keys, 130, impl.MsSig, impl.MsSig)
	wantCodes(t, "a Signer as who is over itself", changedMsg(m, func(m *impl.Msg) { m.Signers[1].Over = []impl.Signer{m.Signers[1]} }), keys, 130, 0, 0, 0, 0, impl.MsSig, 0, 0)
	wantCodes(t, "no Signers", impl.Msg{Content: []byte("m")}, keys, 130)
	wantCodes(t, "nothing", impl.Msg{}, nil, 0)
}

func TestTheTimeOfACheck(t *testing.T) {
	m, keys := plainMsg(), plainKeys()
	times := []int64{100, 110, 120, 130, 90, 95}
	nows := []int64{math.MinInt64, -1, 0, impl.MaxTime, impl.MaxTime + 1, math.MaxInt64}
	for _, at := range times {
		nows = append(nows, at-1, at, at+1)
	}
	for _, now := range nows {
		want := make([]int64, 6)
		for i, at := range times {
			if at > now {
				want[i] = impl.MsLate
			}
		}
		wantCodes(t, "now", m, keys, now, want...)
	}
}

func TestKeysThatAreToldTwice(t *testing.T) {
	m := plainMsg()
	wantCodes(t, "twice", m, slices.Repeat(plainKeys(), 4), 130, 0, 0, 0, 0, 0, 0)
	wantCodes(t, "in another order", m, slices.Concat(plainKeys()[2:], plainKeys()[:2], plainKeys()), 130, 0, 0, 0, 0, 0, 0)
	wantCodes(t, "keys that are none among them", m, append([]impl.Pub{{}, {Scheme: -1}, {Scheme: 3, Y: 5}}, plainKeys()...), 130, 0, 0, 0, 0, 0, 0)
	none := impl.Msg{Signers: []impl.Signer{{Key: impl.KeyId(impl.Pub{}), At: 5}}}
	wantCodes(t, "a key that is none", none, []impl.Pub{{}}, 130, impl.MsSig)
}

// Only the first Pub with the KeyId is asked, and no Pub with another KeyId.
func TestTwoPubsOfWhichOneTakesTheSig(t *testing.T) {
	m := changedMsg(plainMsg(), func(m *impl.Msg) { m.Signers = m.Signers[2:]; m.Signers[0].Key = impl.KeyId(pubNo(2)) })
	wantCodes(t, "signed by another", m, []impl.Pub{pubNo(2), pubNo(5), pubNo(1)}, 130, impl.MsSig, 0)
	wantCodes(t, "signed by another that stands ahead", m, []impl.Pub{pubNo(5), pubNo(2), pubNo(1)}, 130, impl.MsSig, 0)
	for i, twin := range twinKeys() {
		own := pubOfSecret(twin.secret)
		if impl.KeyId(own) != impl.KeyId(twin.other) {
			t.Fatal("no twins", i)
		}
		content := []byte("m")
		m := impl.Msg{Content: content, Signers: []impl.Signer{signedOver(signerBy(twin.secret, ofContent, content, 5), twin.secret, 6)}}
		wantCodes(t, "its own Pub", m, []impl.Pub{own}, 9, 0, 0)
		wantCodes(t, "its own Pub first", m, []impl.Pub{pubNo(1), own, twin.other}, 9, 0, 0)
		wantCodes(t, "the other Pub", m, []impl.Pub{twin.other}, 9, impl.MsSig, impl.MsSig)
		wantCodes(t, "the other Pub first", m, []impl.Pub{pubNo(1), twin.other, own}, 9, impl.MsSig, impl.MsSig)
	}
}

func TestMsgCheckRefuses(t *testing.T) {
	many := slices.Repeat([]impl.Pub{pubNo(9)}, 30)
	for _, count := range []int{0, 15, 16, 25, 4000} {
		keys := append(slices.Repeat(many[:1], count), plainKeys()...)
		got, ok := impl.MsgCheck(plainMsg(), keys, 130)
		if want := len(keys) <= 20; ok != want || want && !slices.Equal(got, make([]int64, 6)) || !want && len(got) != 0 {
			t.Error(len(keys), "keys: got", got, ok)
		}
		if _, ok := impl.MsgCheck(impl.Msg{}, keys, 130); ok != (len(keys) <= 20) {
			t.Error(len(keys), "keys, nobody signs", ok)
		}
	}
	for _, row := range msgCases() {
		m := changedMsg(plainMsg(), row.change)
		got, ok := impl.MsgCheck(m, plainKeys(), 130)
		want, right := slowMsgCheck(m, plainKeys(), 130)
		if ok != row.right || right != row.right || !slices.Equal(got, want) {
			t.Error(row.why, "got", got, ok, "want", want, row.right)
		}
	}
	if got, ok := impl.MsgCheck(ownOver(), plainKeys(), 130); ok || len(got) != 0 {
		t.Error("over itself", got, ok)
	}
}

func TestMsgCheckOfAnyMessage(t *testing.T) {
	r := rand.New(rand.NewSource(171))
	seen := map[int64]int{}
	for range 1500 {
		m := anySigned(r)
		var keys []impl.Pub
		for range r.Intn(9) {
			keys = append(keys, oneOf(r, pubNo(1+r.Intn(4)), pubOfSecret(treeNo(r.Intn(3)))))
		}
		now := r.Int63n(11)
		want, _ := slowMsgCheck(m, keys, now)
		wantCodes(t, "any", m, keys, now, want...)
		for _, code := range want {
			seen[code]++
		}
	}
	for code := range int64(4) {
		if seen[code] < 100 {
			t.Error("too few of", code, seen)
		}
	}
}

// What is signed and signed over is good for who has the keys, and for nobody else.
func TestSignedMessagesAreGoodForWhoHasTheKeys(t *testing.T) {
	r := rand.New(rand.NewSource(172))
	for range 60 {
		var list []impl.Secret
		var keys []impl.Pub
		for range 1 + r.Intn(6) {
			s := oneOf(r, impl.Secret{Scheme: impl.ScGroup, X: uint64(anySecret(r))}, impl.Secret{Scheme: impl.ScTree, X: r.Uint64(), Height: 1 + r.Int63n(3)})
			list, keys = append(list, s), append(keys, pubOfSecret(s))
		}
		m, next, code := impl.SignMsg(someText(r.Intn(300)), 5, list)
		if code != 0 {
			t.Fatal(code)
		}
		for range r.Intn(7) {
			at := r.Intn(len(list))
			if n, left, code := impl.CounterSign(m, r.Int63n(int64(len(list))), 6, next[at]); code == 0 {
				m, next[at] = n, left
			}
		}
		want, _ := slowMsgCheck(m, keys, 6)
		wantCodes(t, "all keys", m, keys, 6, make([]int64, len(want))...)
		for i := range m.Content {
			n := changedMsg(m, func(m *impl.Msg) { m.Content[i] ^= byte(1 << r.Intn(8)) })
			got, _ := impl.MsgCheck(n, keys, 6)
			if got[0] != impl.MsSig {
				t.Fatal("turned at", i, got)
			}
		}
		got, _ := impl.MsgCheck(m, nil, 6)
		if !slices.Equal(got, slices.Repeat([]int64{impl.MsKey}, len(want))) {
			t.Fatal("without keys", got)
		}
	}
}
