package tests

import (
	"cmp"
	"math/rand"
	"slices"
	"strconv"
	"testing"

	"loop.example/g00041/impl"
)

// The keys of the paths are told by small numbers.
func secretNo(n int) impl.Secret { return impl.Secret{Scheme: impl.ScGroup, X: uint64(1000 + n)} }

func pubNo(n int) impl.Pub {
	p, _ := impl.PubOf(secretNo(n))
	return p
}

// trail is a path that is not yet signed: the certificate at i has the key with the number keys[i], and is signed
// with that of the one above; the anchor's is 0.
type trail struct {
	anchor impl.Anchor
	ask    impl.Ask
	certs  []impl.Cert
	keys   []int
	// turned are done behind the signing.
	turned []func(path []impl.Cert)
}

const (
	pathFrom = 100
	pathTo   = 900
	pathAt   = 500
)

func plainAnchor() impl.Anchor {
	return impl.Anchor{Name: partsOf("The Root"), Key: pubNo(0), Until: 1000}
}

func plainAsk() impl.Ask { return impl.Ask{At: pathAt, Uses: impl.UsServer, Policies: []int64{0}} }

func subjectNo(i int) impl.Name { return partsOf("x", "subject "+strconv.Itoa(i)) }

// plainLink is a certificate of an authority, or of somebody at the end.
func plainLink(serial int64, issuer impl.Name, subject impl.Name, ca bool) impl.Cert {
	c := impl.Cert{
		Serial: serial, Issuer: copyName(issuer), Subject: copyName(subject), From: pathFrom, To: pathTo, Room: -1,
		Uses: impl.UsServer, Policies: []int64{0}, NeedPolicy: -1, NoMap: -1, NoAny: -1,
	}
	if ca {
		c.IsCA, c.Uses = true, impl.UsCert
	}
	return c
}

// plainTrail is a path of so many certificates, that is right.
func plainTrail(count int) *trail {
	w := &trail{anchor: plainAnchor(), ask: plainAsk()}
	above := w.anchor.Name
	for i := range count {
		subject := subjectNo(i)
		w.certs = append(w.certs, plainLink(int64(i+1), above, subject, i < count-1))
		w.keys = append(w.keys, i+1)
		above = subject
	}
	return w
}

func (w *trail) last() int { return len(w.certs) - 1 }

// rename gives the certificate at a place another subject, of which those behind it know.
func (w *trail) rename(at int, subject impl.Name) {
	w.certs[at].Subject = copyName(subject)
	if at < w.last() {
		w.certs[at+1].Issuer = copyName(subject)
	}
}

// makeSelf makes the certificate at a place one that is Self, with a key of its own.
func (w *trail) makeSelf(at int) { w.rename(at, w.certs[at].Issuer) }

func (w *trail) signer(at int) int {
	if at == 0 {
		return 0
	}
	return w.keys[at-1]
}

// path is the path, signed.
func (w *trail) path() []impl.Cert {
	var out []impl.Cert
	for i, c := range w.certs {
		c = copyCert(c)
		c.Key = pubNo(w.keys[i])
		out = append(out, signedWith(c, w.signer(i)))
	}
	for _, turn := range w.turned {
		turn(out)
	}
	return out
}

// signedWith signs also what is not right, as well as it can be.
func signedWith(c impl.Cert, key int) impl.Cert {
	c.Sig = nil
	c.Sig, _, _ = impl.SignAny(secretNo(key), slowCertBody(c))
	return c
}

func (w *trail) check() (int64, int64) { return impl.Check(w.path(), w.anchor, w.ask) }

func wantCheck(t *testing.T, why string, w *trail, code int64, at int) {
	t.Helper()
	gotCode, gotAt := w.check()
	if gotCode != code || gotAt != int64(at) {
		t.Error(why, "got", gotCode, gotAt, "want", code, at)
	}
}

// fault is one that is met at a place.
type fault struct {
	code int64
	at   int
}

// faultsInOrder is below 0 when the first is told: those for the last alone come behind all others.
func faultsInOrder(a fault, b fault) int {
	late := func(f fault) int { return cmp.Compare(f.code, impl.PcExt+1) }
	if x, y := late(a) >= 0, late(b) >= 0; x != y {
		if y {
			return -1
		}
		return 1
	}
	return cmp.Or(cmp.Compare(a.at, b.at), cmp.Compare(a.code, b.code))
}

func slowSelf(c impl.Cert) bool { return impl.SameName(c.Issuer, c.Subject) }

// slowFits looks at one name behind the other.
func slowFits(permit []impl.GenName, deny []impl.GenName, c impl.Cert) bool {
	for _, base := range slices.Concat(permit, deny) {
		if !impl.BaseOk(base) {
			return false
		}
	}
	names := slices.Clone(c.Names)
	if len(c.Subject.Parts) != 0 {
		names = append(names, impl.GenName{Kind: impl.GnName, Name: c.Subject})
	}
	for _, g := range names {
		asked, inside := 0, 0
		for _, base := range permit {
			if base.Kind == g.Kind {
				asked++
			}
			if impl.Within(g, base) {
				inside++
			}
		}
		for _, base := range deny {
			if impl.Within(g, base) {
				return false
			}
		}
		if asked > 0 && inside == 0 {
			return false
		}
	}
	return impl.CertOk(c)
}

// slowStepFaults are all that is wrong with the certificate at i, in any order.
func slowStepFaults(path []impl.Cert, i int, a impl.Anchor, q impl.Ask) []int64 {
	c := path[i]
	name, key := a.Name, a.Key
	if i > 0 {
		name, key = path[i-1].Subject, path[i-1].Key
	}
	stand := slowStanding(q.Lists, c.Issuer, c.Serial, q.At).State
	last := i == len(path)-1
	var out []int64
	tell := func(code int64, wrong bool) {
		if wrong {
			out = append(out, code)
		}
	}
	tell(impl.PcForm, !impl.CertOk(c))
	tell(impl.PcName, !impl.SameName(c.Issuer, name))
	tell(impl.PcSig, !impl.VerifyAny(key, slowCertBody(c), c.Sig))
	tell(impl.PcTime, q.At < c.From || q.At > c.To)
	tell(impl.PcDistrust, i == 0 && c.From > a.Until)
	tell(impl.PcGone, stand == impl.StGone)
	tell(impl.PcUnknown, stand == impl.StUnknown && q.Hard)
	tell(impl.PcCA, !last && !(c.IsCA && c.Uses/2%2 == 1))
	fits := slowFits(a.Permit, a.Deny, c)
	for j := range i {
		fits = fits && slowFits(path[j].Permit, path[j].Deny, c)
		tell(impl.PcLoop, impl.SameName(path[j].Subject, c.Subject) && path[j].Key == c.Key)
	}
	tell(impl.PcNames, !fits && (last || !slowSelf(c)))
	below := int64(0)
	for j := len(path) - 2; j > i; j-- {
		if !slowSelf(path[j]) {
			below++
		}
	}
	tell(impl.PcRoom, c.Room >= 0 && below > c.Room)
	for _, x := range c.Exts {
		tell(impl.PcExt, x.Critical && !slices.Contains(q.Known, x.Id))
	}
	return out
}

func slowWanted(c impl.Cert, want impl.GenName) bool {
	for _, g := range c.Names {
		switch {
		case g.Kind != want.Kind:
		case g.Kind == impl.GnHost && impl.HostMatch(g.Text, want.Text):
			return true
		case g.Kind == impl.GnMail && g.Text == want.Text:
			return true
		case g.Kind == impl.GnAddr && g.Addr == want.Addr:
			return true
		case g.Kind == impl.GnName && impl.SameName(g.Name, want.Name):
			return true
		}
	}
	return false
}

func slowLastFaults(path []impl.Cert, a impl.Anchor, q impl.Ask) []int64 {
	c := path[len(path)-1]
	var out []int64
	for bit := range 8 {
		if q.Uses>>bit&1 > c.Uses>>bit&1 {
			out = append(out, impl.PcUse)
		}
	}
	if q.Want.Kind != 0 && !slowWanted(c, q.Want) {
		out = append(out, impl.PcWant)
	}
	var says []impl.PolCert
	pinned := len(q.Pins) == 0 || slices.Contains(q.Pins, impl.KeyId(a.Key))
	for _, x := range path {
		says = append(says, impl.PolCert{Policies: x.Policies, Maps: x.Maps, Self: slowSelf(x), NeedPolicy: x.NeedPolicy, NoMap: x.NoMap, NoAny: x.NoAny})
		pinned = pinned || slices.Contains(q.Pins, impl.KeyId(x.Key))
	}
	if _, ok := slowPolicies(says, q.Policies, q.Need, q.NoMap, q.NoAny); !ok {
		out = append(out, impl.PcPolicy)
	}
	if !pinned {
		out = append(out, impl.PcPin)
	}
	return out
}

// slowCheck looks for all faults there are, and tells the one that is told.
func slowCheck(path []impl.Cert, a impl.Anchor, q impl.Ask) (int64, int64) {
	if len(path) < 1 || len(path) > 8 || !impl.AnchorOk(a) || !impl.AskOk(q) {
		return impl.PcForm, 0
	}
	var all []fault
	for i := range path {
		for _, code := range slowStepFaults(path, i, a, q) {
			all = append(all, fault{code, i})
		}
	}
	if len(all) == 0 {
		for _, code := range slowLastFaults(path, a, q) {
			all = append(all, fault{code, len(path) - 1})
		}
	}
	if len(all) == 0 {
		return 0, 0
	}
	first := slices.MinFunc(all, faultsInOrder)
	return first.code, int64(first.at)
}

// speaking is a list of an issuer that speaks at pathAt.
func speaking(issuer impl.Name, entries ...impl.Gone) impl.Crl {
	l := ownList(1, entries...)
	l.Issuer, l.At, l.Next = copyName(issuer), pathAt, pathAt+1
	return l
}

// goodLists speak of all certificates of a path, and say good.
func goodLists(w *trail) []impl.Crl {
	var out []impl.Crl
	for _, c := range w.certs {
		out = append(out, speaking(c.Issuer))
	}
	return out
}

// breaker makes a trail have a fault with a code at a place; places are where it can.
type breaker struct {
	code   int64
	places func(count int) []int
	put    func(w *trail, at int)
}

func upTo(least int, count int) []int {
	var out []int
	for i := least; i < count; i++ {
		out = append(out, i)
	}
	return out
}

func everywhere(count int) []int { return upTo(0, count) }

func atLast(count int) []int { return []int{count - 1} }

func stepBreakers() []breaker {
	turned := func(change func(c *impl.Cert)) func(w *trail, at int) {
		return func(w *trail, at int) {
			w.turned = append(w.turned, func(path []impl.Cert) { change(&path[at]) })
		}
	}
	onCert := func(change func(c *impl.Cert)) func(w *trail, at int) {
		return func(w *trail, at int) { change(&w.certs[at]) }
	}
	return []breaker{
		{impl.PcForm, everywhere, onCert(func(c *impl.Cert) { c.Serial = 0 })},
		{impl.PcName, everywhere, onCert(func(c *impl.Cert) { c.Issuer = partsOf("another") })},
		{impl.PcSig, everywhere, turned(func(c *impl.Cert) { *c = signedWith(*c, 77) })},
		{impl.PcTime, everywhere, onCert(func(c *impl.Cert) { c.To = pathAt - 1 })},
		{impl.PcDistrust, func(int) []int { return []int{0} }, func(w *trail, at int) { w.anchor.Until = w.certs[0].From - 1 }},
		{impl.PcGone, everywhere, func(w *trail, at int) {
			w.ask.Lists = append(w.ask.Lists, speaking(w.certs[at].Issuer, goneAt(w.certs[at].Serial, 20, impl.RsKey)))
		}},
		{impl.PcUnknown, everywhere, func(w *trail, at int) {
			if !w.ask.Hard {
				w.ask.Hard = true
				w.ask.Lists = append(w.ask.Lists, goodLists(w)...)
			}
			w.ask.Lists = slices.DeleteFunc(w.ask.Lists, func(l impl.Crl) bool { return impl.SameName(l.Issuer, w.certs[at].Issuer) })
		}},
		{impl.PcLoop, func(count int) []int { return upTo(1, count) }, func(w *trail, at int) {
			w.rename(at, w.certs[0].Subject)
			w.keys[at] = w.keys[0]
		}},
		{impl.PcCA, func(count int) []int { return everywhere(count - 1) }, onCert(func(c *impl.Cert) { c.IsCA, c.Uses, c.Room, c.Permit, c.Deny = false, 255, -1, nil, nil })},
		{impl.PcRoom, func(count int) []int { return everywhere(count - 2) }, func(w *trail, at int) { w.certs[at].Room = int64(w.last() - at - 2) }},
		{impl.PcNames, everywhere, func(w *trail, at int) {
			w.certs[at].Names = append(w.certs[at].Names, hostGen("a.bad"))
			w.anchor.Deny = []impl.GenName{hostGen("bad")}
		}},
		{impl.PcExt, everywhere, onCert(func(c *impl.Cert) { c.Exts = []impl.Ext{{Id: 5, Critical: true}} })},
	}
}

func lastBreakers() []breaker {
	return []breaker{
		{impl.PcUse, atLast, func(w *trail, at int) { w.ask.Uses = impl.UsServer | impl.UsClient }},
		{impl.PcWant, atLast, func(w *trail, at int) { w.ask.Want = hostGen("not.there") }},
		{impl.PcPolicy, atLast, func(w *trail, at int) { w.ask.Need, w.certs[at].Policies = true, nil }},
		{impl.PcPin, atLast, func(w *trail, at int) { w.ask.Pins = []uint64{7} }},
	}
}

// anyTrail is a path with something of everything in it, that may break none, one or some of the rules.
func anyTrail(r *rand.Rand) *trail {
	w := plainTrail(1 + r.Intn(impl.MaxPath))
	spiceAnchorAndAsk(r, w)
	for i := range w.certs {
		spiceCert(r, w, i)
	}
	if r.Intn(3) == 0 {
		w.ask.Lists = goodLists(w)
		w.ask.Hard = r.Intn(2) == 0
		for range r.Intn(3) {
			w.ask.Lists = append(w.ask.Lists, anyPathList(r, w))
		}
		w.ask.Lists = shuffled(r, w.ask.Lists)
	}
	breakers := append(stepBreakers(), lastBreakers()...)
	for range oneOf(r, 0, 0, 0, 1, 1, 2, 3) {
		b := oneOf(r, breakers...)
		if places := b.places(len(w.certs)); len(places) > 0 {
			b.put(w, oneOf(r, places...))
		}
	}
	return w
}

func spiceAnchorAndAsk(r *rand.Rand, w *trail) {
	if r.Intn(3) == 0 {
		w.anchor.Permit = someNames(r, 3, pathBases()...)
	}
	if r.Intn(4) == 0 {
		w.anchor.Deny = someNames(r, 1, hostGen("q.y"), mailGen("z@z"), addrGen(1<<31, 32))
	}
	if r.Intn(3) == 0 {
		w.ask.Want = oneOf(r, hostGen("a.x.y"), hostGen("x.y"), mailGen("u@x.y"), addrGen(5, 0), nameGen("X", "n"))
	}
	if r.Intn(3) == 0 {
		w.ask.Policies = anyAsked(r)
	}
	w.ask.Need, w.ask.NoMap, w.ask.NoAny = r.Intn(5) == 0, r.Intn(5) == 0, r.Intn(5) == 0
	w.ask.Known = oneOf(r, nil, []int64{5}, []int64{3, 4})
	w.ask.Uses = oneOf(r, 0, int64(impl.UsServer), impl.UsServer)
	if r.Intn(4) == 0 {
		w.ask.Pins = []uint64{r.Uint64(), impl.KeyId(pubNo(r.Intn(9)))}
	}
}

func pathBases() []impl.GenName {
	return []impl.GenName{hostGen("y"), hostGen("x.y"), mailGen("x.y"), mailGen(".y"), addrGen(0, 1), nameGen("X"), {Kind: impl.GnName}}
}

func spiceCert(r *rand.Rand, w *trail, i int) {
	c := &w.certs[i]
	c.Names = someNames(r, 2, hostGen("a.x.y"), hostGen("*.x.y"), mailGen("u@x.y"), addrGen(5, 0), nameGen("x", "N"))
	c.Policies = oneOf(r, []int64{0}, []int64{0}, []int64{1, 2, 0}, []int64{1}, nil)
	c.Exts = oneOf(r, nil, []impl.Ext{{Id: 3}}, []impl.Ext{{Id: 3, Critical: r.Intn(9) == 0}, {Id: 5}})
	if i == w.last() {
		return
	}
	if r.Intn(4) == 0 {
		w.makeSelf(i)
	}
	if r.Intn(3) == 0 {
		c.Room = oneOf(r, int64(w.last()-i-1), 10, r.Int63n(4))
	}
	if r.Intn(4) == 0 {
		c.Permit = someNames(r, 3, pathBases()...)
	}
	if r.Intn(6) == 0 {
		c.Deny = someNames(r, 1, hostGen("q.y"), mailGen("z@z"), nameGen("y"))
	}
	if r.Intn(4) == 0 {
		c.Maps = []impl.PolMap{{From: 1, To: 2}}
		c.NeedPolicy, c.NoMap, c.NoAny = r.Int63n(4)-1, r.Int63n(4)-1, r.Int63n(4)-1
	}
}

// anyPathList is a list that may speak of some of a path's certificates.
func anyPathList(r *rand.Rand, w *trail) impl.Crl {
	c := oneOf(r, w.certs...)
	l := speaking(oneOf(r, c.Issuer, partsOf("who tells")))
	l.Scope = oneOf(r, int64(allReasons), 2, 64)
	l.Indirect = r.Intn(2) == 0
	if r.Intn(4) == 0 {
		l.Entries = []impl.Gone{goneAt(c.Serial, 20, oneOf(r, int64(impl.RsKey), impl.RsHold))}
		if l.Indirect {
			l.Entries[0].Issuer = copyName(c.Issuer)
		}
	}
	return l
}
