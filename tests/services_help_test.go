package tests

import (
	"bytes"
	"math/rand"
	"slices"
	"strconv"
	"testing"

	"loop.example/g00041/impl"
)

// The keys of a path: of its root, of the authority below it, and of who is met.
const (
	serverKeys = 100
	clientKeys = 200
)

func rootName(keys int) impl.Name { return partsOf("root " + strconv.Itoa(keys)) }

func midName(keys int) impl.Name { return partsOf("mid " + strconv.Itoa(keys)) }

func rootOf(keys int) impl.Anchor {
	return impl.Anchor{Name: rootName(keys), Key: pubNo(keys), Until: 1000}
}

// pathBelow leads from a root to who has the key with the number keys + 2, is used so, and has such names.
func pathBelow(keys int, uses int64, names ...impl.GenName) []impl.Cert {
	mid := plainLink(1, rootName(keys), midName(keys), true)
	mid.Key = pubNo(keys + 1)
	end := plainLink(2, midName(keys), partsOf("x", "end "+strconv.Itoa(keys)), false)
	end.Key, end.Uses, end.Names = pubNo(keys+2), uses, names
	return []impl.Cert{signedWith(mid, keys), signedWith(end, keys+1)}
}

// encounter is all that Meet is given.
type encounter struct {
	a, b   impl.Side
	host   string
	action int64
	na, nb []byte
	now    int64
}

func (e encounter) meet() (impl.Session, int64) {
	return impl.Meet(e.a, e.b, e.host, e.action, e.na, e.nb, e.now)
}

// plainEncounter is one in which both are known. Neither the At nor the Want of an Ask is what counts, and each side
// has an anchor ahead of the one that accepts.
func plainEncounter() encounter {
	ask := func() impl.Ask {
		return impl.Ask{At: 7, Uses: impl.UsSign, Want: mailGen("nobody@else"), Policies: []int64{0}}
	}
	return encounter{
		a: impl.Side{
			Path:    pathBelow(clientKeys, impl.UsSign|impl.UsClient, mailGen("u@a.y")),
			Secret:  secretNo(clientKeys + 2),
			Anchors: []impl.Anchor{rootOf(300), rootOf(serverKeys)},
			Ask:     ask(),
		},
		b: impl.Side{
			Path:    pathBelow(serverKeys, impl.UsSign|impl.UsServer, hostGen("b.x.y"), hostGen("*.w.y")),
			Secret:  secretNo(serverKeys + 2),
			Anchors: []impl.Anchor{rootOf(300), rootOf(clientKeys)},
			Ask:     ask(),
			Rules:   []impl.AllowRule{{Base: mailGen("a.y"), Action: 3, Yes: true}},
		},
		host: "b.x.y", action: 3, na: []byte{1, 2, 3}, nb: []byte{4, 5}, now: pathAt,
	}
}

// stranger is one in which the server does not ask who comes.
func stranger() encounter {
	return plainEncounter().with(func(e *encounter) { e.b.Anchors, e.b.Rules = nil, nil })
}

func copySide(s impl.Side) impl.Side {
	var path []impl.Cert
	for _, c := range s.Path {
		path = append(path, copyCert(c))
	}
	s.Path, s.Anchors, s.Rules = path, slices.Clone(s.Anchors), slices.Clone(s.Rules)
	s.Ask.Policies, s.Ask.Lists, s.Ask.Pins = slices.Clone(s.Ask.Policies), slices.Clone(s.Ask.Lists), slices.Clone(s.Ask.Pins)
	return s
}

func (e encounter) with(changes ...func(e *encounter)) encounter {
	e.a, e.b, e.na, e.nb = copySide(e.a), copySide(e.b), bytes.Clone(e.na), bytes.Clone(e.nb)
	for _, change := range changes {
		change(&e)
	}
	return e
}

// remade is a path whose last certificate is changed, and signed anew.
func remade(s *impl.Side, keys int, change func(c *impl.Cert)) {
	last := len(s.Path) - 1
	c := copyCert(s.Path[last])
	change(&c)
	signer := keys + 1
	if last == 0 {
		signer = keys
	}
	s.Path[last] = signedWith(c, signer)
}

// takeSecret gives a side a secret of its own choice, with a certificate for it.
func takeSecret(s *impl.Side, keys int, secret impl.Secret) {
	s.Secret = secret
	remade(s, keys, func(c *impl.Cert) { c.Key = pubOfSecret(secret) })
}

// slowAllowed goes from the last rule to the first: the last one that it meets is the one that speaks.
func slowAllowed(rules []impl.AllowRule, c impl.Cert, action int64) bool {
	yes := false
	for _, rule := range slices.Backward(rules) {
		if !impl.BaseOk(rule.Base) {
			return false
		}
		names := slices.Clone(c.Names)
		if len(c.Subject.Parts) > 0 {
			names = append(names, impl.GenName{Kind: impl.GnName, Name: c.Subject})
		}
		for _, g := range names {
			if impl.Within(g, rule.Base) && (rule.Action == action || rule.Action == 0) {
				yes = rule.Yes
			}
		}
	}
	return yes && len(rules) <= 20 && action > 0 && impl.CertOk(c)
}

func slowSideOk(s impl.Side) bool {
	if count := len(s.Path); count > 0 {
		pub, ok := impl.PubOf(s.Secret)
		if count > 8 || !ok || !impl.CertOk(s.Path[count-1]) || s.Path[count-1].Key != pub {
			return false
		}
	}
	for _, a := range s.Anchors {
		if !impl.AnchorOk(a) {
			return false
		}
	}
	return len(s.Anchors) <= 6 && impl.AskOk(s.Ask)
}

func (e encounter) slowFormOk() bool {
	return slowSideOk(e.a) && slowSideOk(e.b) && impl.HostOk(e.host, false) && e.action > 0 &&
		within(int64(len(e.na)), 1, 16) && within(int64(len(e.nb)), 1, 16) && isTimeOf(e.now) &&
		len(e.a.Anchors) > 0 && len(e.b.Path) > 0
}

// slowAccepts asks all anchors, and counts those that accept.
func slowAccepts(by impl.Side, path []impl.Cert, bit int64, want impl.GenName, now int64) bool {
	q := by.Ask
	q.At, q.Want = now, want
	if q.Uses/bit%2 == 0 {
		q.Uses += bit
	}
	count := 0
	for _, a := range by.Anchors {
		if code, _ := slowCheck(path, a, q); code == 0 {
			count++
		}
	}
	return count > 0
}

func lastFinger(path []impl.Cert) uint64 { return slowDigest(slowCert(path[len(path)-1])) }

func (e encounter) slowSaid() []byte {
	who := make([]byte, 8)
	if len(e.b.Anchors) > 0 && len(e.a.Path) > 0 {
		who = eight(lastFinger(e.a.Path))
	}
	return around(64+32+20, around(4, e.na), around(4, e.nb), around(4, who), around(4, eight(lastFinger(e.b.Path))))
}

func isUsedUp(s impl.Secret) bool { return s.Scheme == impl.ScTree && s.Next == 1<<s.Height }

// slowMeet looks for all that is wrong, and tells what is told first.
func (e encounter) slowMeet() (impl.Session, int64) {
	if !e.slowFormOk() {
		return impl.Session{}, 1
	}
	known := len(e.b.Anchors) > 0
	var wrong []int64
	if !slowAccepts(e.a, e.b.Path, 8, hostGen(e.host), e.now) {
		wrong = append(wrong, 2)
	}
	if isUsedUp(e.b.Secret) {
		wrong = append(wrong, 3)
	}
	if known && !slowAccepts(e.b, e.a.Path, 16, impl.GenName{}, e.now) {
		wrong = append(wrong, 4)
	}
	if known && len(e.a.Path) > 0 && isUsedUp(e.a.Secret) {
		wrong = append(wrong, 3)
	}
	if known && len(e.a.Path) > 0 && !slowAllowed(e.b.Rules, e.a.Path[len(e.a.Path)-1], e.action) || !known && len(e.b.Rules) > 0 {
		wrong = append(wrong, 5)
	}
	if len(wrong) > 0 {
		return impl.Session{}, wrong[0]
	}
	said := e.slowSaid()
	out := impl.Session{Key: impl.HashAll([][]byte{[]byte("session"), said}), SigB: slowBytes(e.b.Secret, said), Known: known}
	if known {
		out.SigA = slowBytes(e.a.Secret, said)
	}
	return out, 0
}

// wantMet holds an encounter to the code, and to the second reading.
func wantMet(t *testing.T, why string, e encounter, want int64) impl.Session {
	t.Helper()
	got, code := e.meet()
	if code != want {
		t.Error(why, "got", code, "want", want)
	}
	slow, slowCode := e.slowMeet()
	if code != slowCode || toldOf(got) != toldOf(slow) {
		t.Error(why, "got", toldOf(got), code, "want", toldOf(slow), slowCode)
	}
	if code == 0 {
		checkMet(t, why, e, got)
	}
	return got
}

// checkMet holds the signatures to the keys of the certificates.
func checkMet(t *testing.T, why string, e encounter, got impl.Session) {
	t.Helper()
	said := e.slowSaid()
	if !impl.VerifyAny(e.b.Path[len(e.b.Path)-1].Key, said, got.SigB) {
		t.Error(why, "the server's signature is not taken")
	}
	if got.Known != (len(e.b.Anchors) > 0) || got.Known == (len(got.SigA) == 0) {
		t.Error(why, "known", got.Known, "with a signature of", len(got.SigA))
	}
	if got.Known && !impl.VerifyAny(e.a.Path[len(e.a.Path)-1].Key, said, got.SigA) {
		t.Error(why, "the client's signature is not taken")
	}
}

// meetBreaker makes an encounter have a fault; those with a greater rank are told behind those with a lesser one.
type meetBreaker struct {
	why  string
	rank int
	code int64
	put  func(e *encounter)
}

func serverBreakers() []meetBreaker {
	of := func(why string, put func(e *encounter)) meetBreaker { return meetBreaker{why, 2, impl.MtServer, put} }
	return []meetBreaker{
		of("another host", func(e *encounter) { e.host = "c.x.y" }),
		of("no anchor of its own", func(e *encounter) { e.a.Anchors[1] = rootOf(400) }),
		of("an anchor that denies it", func(e *encounter) { e.a.Anchors[1].Deny = gens(hostGen("y")) }),
		of("no server", func(e *encounter) {
			remade(&e.b, serverKeys, func(c *impl.Cert) { c.Uses = impl.UsSign | impl.UsClient })
		}),
		of("not for what the client asks", func(e *encounter) { e.a.Ask.Uses |= impl.UsLog }),
		of("too late", func(e *encounter) { remade(&e.b, serverKeys, func(c *impl.Cert) { c.To = pathAt - 1 }) }),
		of("too early", func(e *encounter) { remade(&e.b, serverKeys, func(c *impl.Cert) { c.From = pathAt + 1 }) }),
		of("gone", func(e *encounter) {
			e.a.Ask.Lists = []impl.Crl{speaking(midName(serverKeys), goneAt(2, 20, impl.RsKey))}
		}),
		of("unknown", func(e *encounter) { e.a.Ask.Hard = true }),
		of("another pin", func(e *encounter) { e.a.Ask.Pins = []uint64{7} }),
		of("an extension", func(e *encounter) {
			remade(&e.b, serverKeys, func(c *impl.Cert) { c.Exts = []impl.Ext{{Id: 5, Critical: true}} })
		}),
		of("another policy", func(e *encounter) {
			e.a.Ask.Need = true
			remade(&e.b, serverKeys, func(c *impl.Cert) { c.Policies = nil })
		}),
		of("a signature of another", func(e *encounter) { e.b.Path[1] = signedWith(e.b.Path[1], 77) }),
		of("a certificate ahead that is not right", func(e *encounter) { e.b.Path[0].Serial = 0 }),
		of("the last one alone", func(e *encounter) { e.b.Path = e.b.Path[1:] }),
	}
}

func clientBreakers() []meetBreaker {
	of := func(why string, put func(e *encounter)) meetBreaker { return meetBreaker{why, 4, impl.MtClient, put} }
	return []meetBreaker{
		of("no path", func(e *encounter) { e.a.Path = nil }),
		of("no path, and a secret that is none", func(e *encounter) { e.a.Path, e.a.Secret = nil, impl.Secret{} }),
		of("no anchor of its own", func(e *encounter) { e.b.Anchors[1] = rootOf(400) }),
		of("the first anchor alone", func(e *encounter) { e.b.Anchors = e.b.Anchors[:1] }),
		of("no client", func(e *encounter) {
			remade(&e.a, clientKeys, func(c *impl.Cert) { c.Uses = impl.UsSign | impl.UsServer })
		}),
		of("not for what the server asks", func(e *encounter) { e.b.Ask.Uses |= impl.UsLog }),
		of("too late", func(e *encounter) { remade(&e.a, clientKeys, func(c *impl.Cert) { c.To = pathAt - 1 }) }),
		of("gone", func(e *encounter) {
			e.b.Ask.Lists = []impl.Crl{speaking(midName(clientKeys), goneAt(2, 20, impl.RsKey))}
		}),
		of("another pin", func(e *encounter) { e.b.Ask.Pins = []uint64{7} }),
		of("a signature of another", func(e *encounter) { e.a.Path[1] = signedWith(e.a.Path[1], 77) }),
	}
}

func lateBreakers() []meetBreaker {
	return []meetBreaker{
		{"the server's key is used up", 3, impl.MtSign, func(e *encounter) { takeSecret(&e.b, serverKeys, usedUp(1)) }},
		{"the server's key of one leaf is used up", 3, impl.MtSign, func(e *encounter) { takeSecret(&e.b, serverKeys, usedUp(0)) }},
		{"the client's key is used up", 5, impl.MtSign, func(e *encounter) { takeSecret(&e.a, clientKeys, usedUp(2)) }},
		{"no rules", 6, impl.MtAllow, func(e *encounter) { e.b.Rules = nil }},
		{"another action", 6, impl.MtAllow, func(e *encounter) { e.b.Rules[0].Action = 2 }},
		{"a rule that does not allow", 6, impl.MtAllow, func(e *encounter) { e.b.Rules[0].Yes = false }},
		{"a rule ahead that does not allow", 6, impl.MtAllow, func(e *encounter) {
			e.b.Rules = append([]impl.AllowRule{{Base: nameGen("X")}}, e.b.Rules...)
		}},
		{"a rule of another", 6, impl.MtAllow, func(e *encounter) { e.b.Rules[0].Base = mailGen("v@a.y") }},
		{"a rule that is none", 6, impl.MtAllow, func(e *encounter) {
			e.b.Rules = append(e.b.Rules, impl.AllowRule{Base: hostGen("*.a.b")})
		}},
		{"too many rules", 6, impl.MtAllow, func(e *encounter) {
			e.b.Rules = slices.Repeat(e.b.Rules, impl.MaxAllow+1)
		}},
	}
}

// sideBreakers make the side not right that side picks.
func sideBreakers(who string, keys int, side func(e *encounter) *impl.Side) []meetBreaker {
	of := func(why string, put func(s *impl.Side)) meetBreaker {
		return meetBreaker{who + ": " + why, 1, impl.MtForm, func(e *encounter) { put(side(e)) }}
	}
	return []meetBreaker{
		of("a path too long", func(s *impl.Side) { s.Path = slices.Concat(slices.Repeat(s.Path[:1], impl.MaxPath), s.Path[1:]) }),
		of("a last one that is not right", func(s *impl.Side) { remade(s, keys, func(c *impl.Cert) { c.Room = 0 }) }),
		of("a last one with another key", func(s *impl.Side) { remade(s, keys, func(c *impl.Cert) { c.Key = pubNo(77) }) }),
		of("the secret of the one ahead", func(s *impl.Side) { s.Secret = secretNo(keys + 1) }),
		of("a secret that is none", func(s *impl.Side) { s.Secret.X = 0 }),
		of("a key that is none, of no secret", func(s *impl.Side) {
			s.Secret = impl.Secret{}
			remade(s, keys, func(c *impl.Cert) { c.Key = impl.Pub{} })
		}),
		of("too many anchors", func(s *impl.Side) { s.Anchors = slices.Repeat(s.Anchors[1:], 7) }),
		of("a first anchor that is not right", func(s *impl.Side) { s.Anchors[0].Until = -1 }),
		of("a last anchor that is not right", func(s *impl.Side) {
			s.Anchors = append(s.Anchors, impl.Anchor{Name: rootName(1), Until: 1000})
		}),
		of("an ask at no time", func(s *impl.Side) { s.Ask.At = impl.MaxTime + 1 }),
		of("an ask for no use", func(s *impl.Side) { s.Ask.Uses = 256 }),
		of("an ask for no name", func(s *impl.Side) { s.Ask.Want = mailGen("@") }),
		of("an ask without policies", func(s *impl.Side) { s.Ask.Policies = nil }),
		of("an ask with too many lists", func(s *impl.Side) { s.Ask.Lists = make([]impl.Crl, impl.MaxLists+1) }),
	}
}

func meetFormBreakers() []meetBreaker {
	of := func(why string, put func(e *encounter)) meetBreaker { return meetBreaker{why, 1, impl.MtForm, put} }
	out := []meetBreaker{
		of("no host", func(e *encounter) { e.host = "" }),
		of("a wild host", func(e *encounter) { e.host = "*.x.y" }),
		of("a host that is none", func(e *encounter) { e.host = "B.x.y" }),
		of("a host that is too long", func(e *encounter) { e.host = hostLong(101) }),
		of("no action", func(e *encounter) { e.action = 0 }),
		of("an action below", func(e *encounter) { e.action = -1 }),
		of("no nonce of the client", func(e *encounter) { e.na = nil }),
		of("a nonce of the client that is too long", func(e *encounter) { e.na = someText(17) }),
		of("no nonce of the server", func(e *encounter) { e.nb = nil }),
		of("a nonce of the server that is too long", func(e *encounter) { e.nb = someText(17) }),
		of("ahead of time", func(e *encounter) { e.now = -1 }),
		of("behind time", func(e *encounter) { e.now = impl.MaxTime + 1 }),
		of("the client has no anchors", func(e *encounter) { e.a.Anchors = nil }),
		of("the server has no path", func(e *encounter) { e.b.Path = nil }),
	}
	out = append(out, sideBreakers("client", clientKeys, func(e *encounter) *impl.Side { return &e.a })...)
	return append(out, sideBreakers("server", serverKeys, func(e *encounter) *impl.Side { return &e.b })...)
}

func meetBreakers() []meetBreaker {
	return slices.Concat(meetFormBreakers(), serverBreakers(), clientBreakers(), lateBreakers())
}

func anyBase(r *rand.Rand) impl.GenName {
	return oneOf(r, hostGen("y"), hostGen("x.y"), hostGen("a.x.y"), mailGen("u@x.y"), mailGen("x.y"), mailGen(".y"), addrGen(0, 1),
		addrGen(5, 32), nameGen("X"), nameGen("X", "n"), impl.GenName{Kind: impl.GnName}, hostGen("q"), nameGen("q"))
}

func anyAllowRules(r *rand.Rand, most int) []impl.AllowRule {
	var out []impl.AllowRule
	for range r.Intn(most + 1) {
		out = append(out, impl.AllowRule{Base: anyBase(r), Action: oneOf[int64](r, 0, 0, 1, 2, 3, -1), Yes: r.Intn(2) == 0})
	}
	if len(out) > 0 && r.Intn(15) == 0 {
		out[r.Intn(len(out))].Base = oneOf(r, hostGen("*.a.b"), hostGen(""), impl.GenName{}, addrGen(1, 1))
	}
	return out
}
