package tests

import (
	"bytes"
	"math"
	"math/rand"
	"slices"

	"loop.example/g00041/impl"
)

// The tags of what is signed in a message.
const (
	ofContent = 8
	ofSig     = 9
)

func slowSignedAt(tag byte, what []byte, at int64) []byte {
	return around(64+32+tag, slowText(string(what)), slowNumber(at))
}

// signerBy signs what is there, whether it is right or not.
func signerBy(s impl.Secret, tag byte, what []byte, at int64, over ...impl.Signer) impl.Signer {
	return impl.Signer{Key: impl.KeyId(pubOfSecret(s)), At: at, Sig: slowBytes(s, slowSignedAt(tag, what, at)), Over: over}
}

// signedOver is x with one more that signs over it.
func signedOver(x impl.Signer, s impl.Secret, at int64) impl.Signer {
	x.Over = append(slices.Clone(x.Over), signerBy(s, ofSig, x.Sig, at))
	return x
}

func sameSigner(a impl.Signer, b impl.Signer) bool {
	return a.Key == b.Key && a.At == b.At && bytes.Equal(a.Sig, b.Sig) && slices.EqualFunc(a.Over, b.Over, sameSigner)
}

func sameMsg(a impl.Msg, b impl.Msg) bool {
	return bytes.Equal(a.Content, b.Content) && slices.EqualFunc(a.Signers, b.Signers, sameSigner)
}

func noMsg(m impl.Msg) bool { return sameMsg(m, impl.Msg{}) }

func copySigners(list []impl.Signer) []impl.Signer {
	var out []impl.Signer
	for _, s := range list {
		s.Sig, s.Over = bytes.Clone(s.Sig), copySigners(s.Over)
		out = append(out, s)
	}
	return out
}

func changedMsg(m impl.Msg, change func(m *impl.Msg)) impl.Msg {
	m.Content, m.Signers = bytes.Clone(m.Content), copySigners(m.Signers)
	change(&m)
	return m
}

// someText is a content of so many bytes, no two pieces of which are alike.
func someText(size int) []byte {
	b := make([]byte, size)
	for i := range b {
		b[i] = byte(i ^ i>>6*7)
	}
	return b
}

// plainMsg is signed by three, of both schemes, and two of these are signed over.
func plainMsg() impl.Msg {
	content := someText(70)
	first := signedOver(signedOver(signerBy(secretNo(1), ofContent, content, 100), secretNo(2), 110), treeNo(3), 120)
	last := signedOver(signerBy(secretNo(5), ofContent, content, 90), secretNo(1), 95)
	return impl.Msg{Content: content, Signers: []impl.Signer{first, signerBy(treeNo(4), ofContent, content, 130), last}}
}

// plainKeys are those of all who signed it.
func plainKeys() []impl.Pub {
	return []impl.Pub{pubNo(1), pubNo(2), pubOfSecret(treeNo(3)), pubOfSecret(treeNo(4)), pubNo(5)}
}

func slowSigner(s impl.Signer) []byte {
	return slowStruct(slowText(string(eight(s.Key))), slowNumber(s.At), slowText(string(s.Sig)), slowList(s.Over, slowSigner))
}

func slowPiece(b []byte) []byte { return slowText(string(b)) }

func inPieces(content []byte, size int) [][]byte {
	var out [][]byte
	for len(content) > size {
		out, content = append(out, content[:size]), content[size:]
	}
	if len(content) > 0 {
		out = append(out, content)
	}
	return out
}

func slowPieces(pieces [][]byte, signers []impl.Signer) []byte {
	return around(64+32+10, slowList(pieces, slowPiece), slowList(signers, slowSigner))
}

// slowMsg writes a message, whether it is right or not, however long it becomes.
func slowMsg(m impl.Msg) []byte { return slowPieces(inPieces(m.Content, 64), m.Signers) }

// slowSignersOk is asked of the Signers of a message, and then of their Over.
func slowSignersOk(list []impl.Signer, mayHaveOver bool) bool {
	for _, s := range list {
		if !isTimeOf(s.At) || len(s.Sig) > 500 || !mayHaveOver && len(s.Over) != 0 {
			return false
		}
		if mayHaveOver && !slowSignersOk(s.Over, false) {
			return false
		}
	}
	return len(list) <= 6
}

func slowMsgOk(m impl.Msg) bool { return len(m.Content) <= 4000 && slowSignersOk(m.Signers, true) }

// hasBytes tells whether there is room for what MsgBytes would write.
func hasBytes(m impl.Msg) bool { return slowMsgOk(m) && len(slowMsg(m)) <= 20000 }

type msgCase struct {
	why    string
	right  bool
	change func(m *impl.Msg)
}

// sizeOfMsgCases are about how many there may be of something.
func sizeOfMsgCases() []msgCase {
	some := func(count int) []impl.Signer {
		return slices.Repeat([]impl.Signer{{Key: 5, At: 7, Sig: []byte{9}}}, count)
	}
	last := func(m *impl.Msg) *impl.Signer { return &m.Signers[len(m.Signers)-1] }
	return []msgCase{
		{"as it is", true, func(m *impl.Msg) {}},
		{"no content", true, func(m *impl.Msg) { m.Content = nil }}, {"MaxContent bytes", true, func(m *impl.Msg) { m.Content = someText(4000) }}, {"one more byte", false, func(m *impl.Msg) { m.Content = someText(4001) }}, {"many bytes", false, func(m *impl.Msg) { m.Content = make([]byte, 50000) }},
		{"no Signers", true, func(m *impl.Msg) { m.Signers = nil }}, {"MaxSigners", true, func(m *impl.Msg) { m.Signers = append(m.Signers, some(3)...) }}, {"one more Signer", false, func(m *impl.Msg) { m.Signers = append(m.Signers, some(4)...) }}, {"many Signers", false, func(m *impl.Msg) { m.Signers = some(3000) }},
		{"no Over", true, func(m *impl.Msg) { m.Signers[0].Over = nil }}, {"MaxSigners over the first", true, func(m *impl.Msg) { m.Signers[0].Over = some(6) }}, {"one more over the first", false, func(m *impl.Msg) { m.Signers[0].Over = some(7) }}, {"MaxSigners over the last", true, func(m *impl.Msg) { last(m).Over = some(6) }}, {"one more over the last", false, func(m *impl.Msg) { last(m).Over = some(7) }}, {"many over the last", false, func(m *impl.Msg) { last(m).Over = some(3000) }},
		{"no Sig", true, func(m *impl.Msg) { m.Signers[0].Sig = nil }}, {"a Sig of MaxSig", true, func(m *impl.Msg) { m.Signers[0].Sig = make([]byte, 500) }}, {"a Sig of one more", false, func(m *impl.Msg) { m.Signers[0].Sig = make([]byte, 501) }}, {"the last Sig of MaxSig", true, func(m *impl.Msg) { last(m).Sig = make([]byte, 500) }}, {"the last Sig of one more", false, func(m *impl.Msg) { last(m).Sig = make([]byte, 501) }},
		{"a Sig over it of MaxSig", true, func(m *impl.Msg) { m.Signers[0].Over[1].Sig = make([]byte, 500) }}, {"a Sig over it of one more", false, func(m *impl.Msg) { m.Signers[0].Over[1].Sig = make([]byte, 501) }}, {"the last Sig over the last of one more", false, func(m *impl.Msg) { last(m).Over[0].Sig = make([]byte, 501) }},
		{"Over of its own", false, func(m *impl.Msg) { m.Signers[0].Over[0].Over = some(1) }}, {"Over of its own, behind one without", false, func(m *impl.Msg) { m.Signers[0].Over[1].Over = some(1) }}, {"Over of its own at the last", false, func(m *impl.Msg) { last(m).Over[0].Over = some(6) }},
		{"as much as there may be of all", true, func(m *impl.Msg) {
			full := slices.Repeat([]impl.Signer{{At: impl.MaxTime, Sig: make([]byte, 500)}}, 6)
			m.Content, m.Signers = someText(4000), copySigners(full)
			for i := range m.Signers {
				m.Signers[i].Over = copySigners(full)
			}
		}},
		{"nothing at all", true, func(m *impl.Msg) { *m = impl.Msg{} }},
	}
}

// timeOfMsgCases put each time to the first and the last Signer, and to what is over them.
func timeOfMsgCases() []msgCase {
	var out []msgCase
	times := map[int64]bool{math.MinInt64: false, -1: false, 0: true, impl.MaxTime: true, impl.MaxTime + 1: false, math.MaxInt64: false}
	for _, at := range []int64{math.MinInt64, -1, 0, impl.MaxTime, impl.MaxTime + 1, math.MaxInt64} {
		for _, i := range []int{0, 1, 2} {
			out = append(out, msgCase{"a time of a Signer", times[at], func(m *impl.Msg) { m.Signers[i].At = at }})
		}
		out = append(out,
			msgCase{"a time over the first", times[at], func(m *impl.Msg) { m.Signers[0].Over[0].At = at }},
			msgCase{"the last time over the first", times[at], func(m *impl.Msg) { m.Signers[0].Over[1].At = at }},
			msgCase{"a time over the last", times[at], func(m *impl.Msg) { m.Signers[2].Over[0].At = at }})
	}
	return out
}

func msgCases() []msgCase { return append(sizeOfMsgCases(), timeOfMsgCases()...) }

// ownOver is over itself, as no list that is read can be.
func ownOver() impl.Msg {
	list := []impl.Signer{{Key: 5, At: 7, Sig: []byte{9}}}
	list[0].Over = list
	return impl.Msg{Signers: list}
}

// twinKey is a secret, and a Pub with the same KeyId as the secret's own, which takes nothing that the secret signs.
// (The digests are small: such twins can be looked for.)
type twinKey struct {
	secret impl.Secret
	other  impl.Pub
}

// twinKeys are one whose other Pub is right, and one whose other Pub is not.
func twinKeys() []twinKey {
	return []twinKey{
		{impl.Secret{Scheme: impl.ScGroup, X: 151688086}, impl.Pub{Scheme: impl.ScTree, Y: 12379550950833014706, Height: 5}},
		{impl.Secret{Scheme: impl.ScGroup, X: 184509885}, impl.Pub{Scheme: impl.ScTree, Y: 12379550963722028837, Height: 63}},
	}
}

func slowSignerCode(s impl.Signer, tag byte, what []byte, keys []impl.Pub, now int64) int64 {
	for _, p := range keys {
		if impl.KeyId(p) != s.Key {
			continue
		}
		if !impl.VerifyAny(p, slowSignedAt(tag, what, s.At), s.Sig) {
			return impl.MsSig
		}
		if now < s.At {
			return impl.MsLate
		}
		return 0
	}
	return impl.MsKey
}

func slowMsgCheck(m impl.Msg, keys []impl.Pub, now int64) ([]int64, bool) {
	if !slowMsgOk(m) || len(keys) > 20 {
		return nil, false
	}
	var out []int64
	for _, s := range m.Signers {
		out = append(out, slowSignerCode(s, ofContent, m.Content, keys, now))
		for _, over := range s.Over {
			out = append(out, slowSignerCode(over, ofSig, s.Sig, keys, now))
		}
	}
	return out, true
}

// anySigned is a message with a few keys and times, of whose signatures some are bent.
func anySigned(r *rand.Rand) impl.Msg {
	m := impl.Msg{Content: someText(r.Intn(200))}
	bend := func(s impl.Signer) impl.Signer {
		switch r.Intn(10) {
		case 0:
			s.Sig = bytes.Clone(s.Sig)
			s.Sig[r.Intn(len(s.Sig))] ^= byte(1 << r.Intn(8))
		case 1:
			s.At++
		case 2:
			s.Key = impl.KeyId(pubNo(1 + r.Intn(4)))
		}
		return s
	}
	for range r.Intn(5) {
		s := bend(signerBy(oneOf(r, secretNo(1+r.Intn(4)), treeNo(r.Intn(3))), ofContent, m.Content, r.Int63n(9)))
		for range r.Intn(4) {
			s = signedOver(s, oneOf(r, secretNo(1+r.Intn(4)), treeNo(r.Intn(3))), r.Int63n(9))
			s.Over[len(s.Over)-1] = bend(s.Over[len(s.Over)-1])
		}
		m.Signers = append(m.Signers, s)
	}
	return m
}

// slowMsgOf is the message that an item is, whatever its sizes and times.
func slowMsgOf(x impl.Item) (impl.Msg, bool) {
	if x.Class != 1 || x.Tag != 10 || !x.Cons || len(x.Kids) != 2 || !isListItem(x.Kids[0]) {
		return impl.Msg{}, false
	}
	var m impl.Msg
	for _, piece := range x.Kids[0].Kids {
		if !isPlainItem(piece, 4) {
			return impl.Msg{}, false
		}
		m.Content = append(m.Content, piece.Body...)
	}
	signers, ok := slowSignersOf(x.Kids[1])
	m.Signers = signers
	return m, ok
}

func isListItem(x impl.Item) bool { return x.Class == 0 && x.Tag == 17 && x.Cons }

func isPlainItem(x impl.Item, tag int64) bool { return x.Class == 0 && x.Tag == tag && !x.Cons }

func slowSignersOf(x impl.Item) ([]impl.Signer, bool) {
	if !isListItem(x) {
		return nil, false
	}
	var out []impl.Signer
	for _, y := range x.Kids {
		if y.Class != 0 || y.Tag != 16 || !y.Cons || len(y.Kids) != 4 {
			return nil, false
		}
		key, at, sig := y.Kids[0], y.Kids[1], y.Kids[2]
		over, ok := slowSignersOf(y.Kids[3])
		if !ok || !isPlainItem(key, 4) || len(key.Body) != 8 || !isPlainItem(at, 2) || !within(int64(len(at.Body)), 1, 8) || !isPlainItem(sig, 4) {
			return nil, false
		}
		s := impl.Signer{Sig: sig.Body, Over: over}
		for _, b := range key.Body {
			s.Key = s.Key*256 + uint64(b)
		}
		for i, b := range at.Body {
			if i == 0 && b > 127 {
				s.At = -1
			}
			s.At = s.At*256 + int64(b)
		}
		out = append(out, s)
	}
	return out, true
}

// slowReadMsg reads by the document's words, from what ReadItem reads with lax.
func slowReadMsg(b []byte) (impl.Msg, int64) {
	x, code, _ := impl.ReadItem(b, true)
	if code != 0 {
		return impl.Msg{}, code
	}
	m, ok := slowMsgOf(x)
	if !ok || !hasBytes(m) {
		return impl.Msg{}, impl.MgForm
	}
	return m, 0
}

// sizedMsg is a message whose bytes are just so many, of some 15000 .. 21000.
func sizedMsg(size int) impl.Msg {
	m := impl.Msg{Content: someText(4000)}
	for range 6 {
		s := impl.Signer{Key: 1 << 63, At: impl.MaxTime, Sig: make([]byte, 400)}
		s.Over = copySigners(slices.Repeat([]impl.Signer{s}, 5))
		m.Signers = append(m.Signers, s)
	}
	for i := range m.Signers {
		for j := -1; j < len(m.Signers[i].Over); j++ {
			s := &m.Signers[i]
			if j >= 0 {
				s = &m.Signers[i].Over[j]
			}
			lack := size - len(slowMsg(m))
			s.Sig = make([]byte, min(500, max(256, 400+lack)))
		}
	}
	return m
}

// laxMsg is an item of the message in another form: with pieces of any lengths, and numbers of more bytes than they need.
func laxMsg(r *rand.Rand, m impl.Msg) impl.Item {
	var pieces [][]byte
	for rest := m.Content; len(rest) > 0 || r.Intn(3) == 0; {
		size := min(len(rest), oneOf(r, 0, 1, 63, 64, 65, len(rest), r.Intn(len(rest)+1)))
		pieces, rest = append(pieces, rest[:size]), rest[size:]
	}
	x, _, _ := impl.ReadItem(slowPieces(pieces, m.Signers), false)
	for _, y := range itemsOf(&x) {
		if isPlainItem(*y, 2) {
			y.Body = append(make([]byte, r.Intn(9-len(y.Body))), y.Body...)
		}
	}
	return x
}

func slowMask(key uint64, data []byte) []byte {
	out := make([]byte, len(data))
	for i := range data {
		part := eight(impl.HashAll([][]byte{[]byte("stream"), eight(key), impl.PutNum(int64(i / 8))}))
		out[i] = data[i] ^ part[i%8]
	}
	return out
}

func slowTag(key uint64, body []byte) uint64 {
	return impl.HashAll([][]byte{[]byte("tag"), eight(key), body})
}

// slowSeal seals anything for anybody, whatever their sizes.
func slowSeal(content []byte, to []impl.Pub, eph int64) impl.Envelope {
	key := impl.HashAll([][]byte{[]byte("content"), impl.PutNum(eph), content})
	e := impl.Envelope{Eph: bigPow(4, eph, impl.P), Body: slowMask(key, content)}
	for _, p := range to {
		id := impl.KeyId(p)
		shared := impl.PutNum(bigPow(int64(p.Y), eph, impl.P))
		e.Wraps = append(e.Wraps, impl.Wrap{Key: id, Value: key ^ impl.HashAll([][]byte{[]byte("wrap"), shared, eight(id)})})
	}
	e.Tag = slowTag(key, e.Body)
	return e
}

func slowLock(data []byte, pass string, salt []byte, rounds int64) impl.Store {
	key := impl.HashAll([][]byte{[]byte("pass"), []byte(pass), salt})
	for range rounds {
		key = impl.Hash(eight(key))
	}
	body := slowMask(key, data)
	return impl.Store{Salt: bytes.Clone(salt), Rounds: rounds, Body: body, Tag: slowTag(key, body)}
}

func sameEnvelope(a impl.Envelope, b impl.Envelope) bool {
	return a.Eph == b.Eph && slices.Equal(a.Wraps, b.Wraps) && bytes.Equal(a.Body, b.Body) && a.Tag == b.Tag
}

func sameStore(a impl.Store, b impl.Store) bool {
	return bytes.Equal(a.Salt, b.Salt) && a.Rounds == b.Rounds && bytes.Equal(a.Body, b.Body) && a.Tag == b.Tag
}

func changedEnvelope(e impl.Envelope, change func(e *impl.Envelope)) impl.Envelope {
	e.Wraps, e.Body = slices.Clone(e.Wraps), bytes.Clone(e.Body)
	change(&e)
	return e
}

func changedStore(s impl.Store, change func(s *impl.Store)) impl.Store {
	s.Salt, s.Body = bytes.Clone(s.Salt), bytes.Clone(s.Body)
	change(&s)
	return s
}
