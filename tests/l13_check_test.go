package tests

import (
	"math"
	"math/rand"
	"slices"
	"testing"

	"loop.example/g00041/impl"
)

func TestPathsOfEachLength(t *testing.T) {
	for count := range 12 {
		want := int64(0)
		if count == 0 || count > impl.MaxPath {
			want = impl.PcForm
		}
		wantCheck(t, "a plain path", plainTrail(count), want, 0)
	}
	long := slices.Repeat(plainTrail(1).path(), 5000)
	if code, at := impl.Check(long, plainAnchor(), plainAsk()); code != impl.PcForm || at != 0 {
		t.Error("a long one", code, at)
	}
	if code, at := impl.Check([]impl.Cert{}, plainAnchor(), plainAsk()); code != impl.PcForm || at != 0 {
		t.Error("an empty one", code, at)
	}
	if code, at := impl.Check(nil, impl.Anchor{}, impl.Ask{}); code != impl.PcForm || at != 0 {
		t.Error("nothing", code, at)
	}
}

func TestEachCodeAtEachPlace(t *testing.T) {
	for _, b := range append(stepBreakers(), lastBreakers()...) {
		met := 0
		for count := 1; count <= impl.MaxPath; count++ {
			for _, at := range b.places(count) {
				w := plainTrail(count)
				b.put(w, at)
				wantCheck(t, "one fault", w, b.code, at)
				met++
			}
		}
		if met == 0 {
			t.Error("the code", b.code, "is never met")
		}
	}
}

// tied are two of which one undoes the other, or brings it.
func tied(a breaker, b breaker) bool {
	both := func(x int64, y int64) bool { return a.code == x && b.code == y || a.code == y && b.code == x }
	return both(impl.PcGone, impl.PcUnknown) || both(impl.PcLoop, impl.PcGone) || both(impl.PcLoop, impl.PcUnknown) ||
		both(impl.PcName, impl.PcGone) || both(impl.PcName, impl.PcUnknown) || both(impl.PcCA, impl.PcRoom) || both(impl.PcLoop, impl.PcName) || both(impl.PcLoop, impl.PcRoom)
}

func TestTwoFaultsAtAnyTwoPlaces(t *testing.T) {
	const count = 4
	all := append(stepBreakers(), lastBreakers()...)
	for _, a := range all {
		for _, b := range all {
			for _, i := range a.places(count) {
				for _, j := range b.places(count) {
					w := plainTrail(count)
					a.put(w, i)
					b.put(w, j)
					checkSlowly(t, w)
					if tied(a, b) {
						continue
					}
					first := slices.MinFunc([]fault{{a.code, i}, {b.code, j}}, faultsInOrder)
					wantCheck(t, "two faults", w, first.code, first.at)
				}
			}
		}
	}
}

func checkSlowly(t *testing.T, w *trail) (int64, int64) {
	t.Helper()
	path := w.path()
	code, at := impl.Check(path, w.anchor, w.ask)
	slowCode, slowAt := slowCheck(path, w.anchor, w.ask)
	if code != slowCode || at != slowAt {
		t.Error("got", code, at, "want", slowCode, slowAt)
	}
	return code, at
}

// allBroken breaks every rule at 2 that can be broken there, and then all that are for the last alone.
func allBroken() *trail {
	w := plainTrail(5)
	w.ask = impl.Ask{At: 5, Uses: 256, Want: hostGen("a"), Policies: []int64{8}, Need: true, Hard: true, Pins: []uint64{1}, Lists: goodLists(w)}
	gone := othersList(1, impl.Gone{Issuer: subjectNo(1), Serial: 3, At: 5, Reason: impl.RsKey})
	w.ask.Lists = append(slices.Delete(w.ask.Lists, 2, 3), gone)
	for i := range w.ask.Lists {
		w.ask.Lists[i].At, w.ask.Lists[i].Next = 5, impl.MaxTime
	}
	w.anchor.Until = -1
	w.certs[0].From, w.certs[1].From, w.certs[4].Policies = 0, 0, nil
	w.certs[0].Deny = gens(nameGen("bad"))
	c := &w.certs[2]
	c.Serial, c.Issuer, c.Uses, c.Room, c.Names = 0, partsOf("another"), impl.UsSign, 0, gens(nameGen("BAD", "one"))
	c.Exts = []impl.Ext{{Id: 8}, {Id: 9, Critical: true}}
	w.rename(2, subjectNo(0))
	w.keys[2] = w.keys[0]
	w.turned = append(w.turned, func(path []impl.Cert) { path[2] = signedWith(path[2], 50) })
	return w
}

func TestAllFaultsAtOnePlaceOneAfterTheOther(t *testing.T) {
	mends := []struct {
		code int64
		at   int
		mend func(w *trail)
	}{
		{impl.PcForm, 0, func(w *trail) { w.ask.Uses = 3 }},
		{impl.PcForm, 0, func(w *trail) { w.anchor.Until = 0 }},
		{impl.PcForm, 2, func(w *trail) { w.certs[2].Serial = 3 }},
		{impl.PcName, 2, func(w *trail) { w.certs[2].Issuer = subjectNo(1) }},
		{impl.PcSig, 2, func(w *trail) { w.turned = nil }},
		{impl.PcTime, 2, func(w *trail) { w.ask.At = pathAt }},
		{impl.PcGone, 2, func(w *trail) { w.ask.Lists = w.ask.Lists[:len(w.ask.Lists)-1] }},
		{impl.PcUnknown, 2, func(w *trail) { w.ask.Hard = false }},
		{impl.PcLoop, 2, func(w *trail) { w.keys[2] = 3 }},
		{impl.PcCA, 2, func(w *trail) { w.certs[2].Uses = impl.UsCert }},
		{impl.PcRoom, 2, func(w *trail) { w.certs[2].Room = 1 }},
		{impl.PcNames, 2, func(w *trail) { w.certs[0].Deny = nil }},
		{impl.PcExt, 2, func(w *trail) { w.ask.Known = []int64{9} }},
		{impl.PcUse, 4, func(w *trail) { w.certs[4].Uses = 3 }},
		{impl.PcWant, 4, func(w *trail) { w.certs[4].Names = gens(hostGen("a")) }},
		{impl.PcPolicy, 4, func(w *trail) { w.certs[4].Policies = []int64{8} }},
		{impl.PcPin, 4, func(w *trail) { w.ask.Pins = []uint64{impl.KeyId(pubNo(4))} }},
	}
	w := allBroken()
	for _, row := range mends {
		wantCheck(t, "all from here on", w, row.code, row.at)
		row.mend(w)
	}
	wantCheck(t, "all is mended", w, 0, 0)
}

func TestThePlacesCountAheadOfTheRules(t *testing.T) {
	w := plainTrail(3)
	stepBreakers()[len(stepBreakers())-1].put(w, 0)
	w.certs[1].Serial = 0
	w.certs[2].Issuer = partsOf("another")
	wantCheck(t, "the last rule at the first place", w, impl.PcExt, 0)
	w.ask.Known = []int64{5}
	wantCheck(t, "the first rule at the second", w, impl.PcForm, 1)
	w.certs[1].Serial = 2
	w.ask.Uses = impl.UsLog
	wantCheck(t, "a rule at the last place, ahead of those for it alone", w, impl.PcName, 2)
	w.certs[2].Issuer = subjectNo(1)
	wantCheck(t, "a rule for the last alone", w, impl.PcUse, 2)
}

func TestTimesOfPaths(t *testing.T) {
	for at := range 3 {
		for _, now := range []int64{pathFrom - 1, pathFrom, pathTo, pathTo + 1} {
			w := plainTrail(3)
			for i := range w.certs {
				if i != at {
					w.certs[i].From, w.certs[i].To = 0, impl.MaxTime
				}
			}
			w.ask.At = now
			if now < pathFrom || now > pathTo {
				wantCheck(t, "beside its time", w, impl.PcTime, at)
			} else {
				wantCheck(t, "at the edge of its time", w, 0, 0)
			}
		}
	}
	w := plainTrail(1)
	w.certs[0].From, w.certs[0].To, w.ask.At, w.anchor.Until = impl.MaxTime, impl.MaxTime, impl.MaxTime, impl.MaxTime
	wantCheck(t, "the last time of all", w, 0, 0)
	w.certs[0].From, w.certs[0].To, w.ask.At, w.anchor.Until = 0, 0, 0, 0
	wantCheck(t, "the first time of all", w, 0, 0)
}

func TestUntilWhenAnAnchorIsTrusted(t *testing.T) {
	for count := 1; count <= 3; count++ {
		w := plainTrail(count)
		w.anchor.Until = pathFrom
		wantCheck(t, "From is Until", w, 0, 0)
		w.anchor.Until = pathFrom - 1
		wantCheck(t, "From is one above Until", w, impl.PcDistrust, 0)
		w.certs[0].From--
		wantCheck(t, "only the first one's From counts", w, 0, 0)
		w.certs[w.last()].From = pathAt
		if count > 1 {
			wantCheck(t, "a later From of the last", w, 0, 0)
		}
	}
}

func TestNamesAboveAndBelow(t *testing.T) {
	w := plainTrail(3)
	w.certs[0].Issuer = partsOf(" the   ROOT ")
	w.certs[1].Issuer = partsOf("X", " Subject  0")
	wantCheck(t, "names that are the same", w, 0, 0)
	w.certs[1].Issuer = impl.Name{Parts: []impl.Part{{Attr: 1, Value: "x"}, {Attr: 3, Value: "subject 0"}}}
	wantCheck(t, "another Attr", w, impl.PcName, 1)
	w.certs[1].Issuer = partsOf("x")
	wantCheck(t, "a name above", w, impl.PcName, 1)
	w.certs[1].Issuer = partsOf("The Root")
	wantCheck(t, "the anchor's name further down", w, impl.PcName, 1)
	bare := plainTrail(2)
	bare.certs[0].Subject, bare.certs[0].Names = impl.Name{}, gens(hostGen("a"))
	wantCheck(t, "nobody is above who has no Subject", bare, impl.PcName, 1)
	alone := plainTrail(1)
	alone.certs[0].Subject, alone.certs[0].Names = impl.Name{}, gens(hostGen("a"))
	wantCheck(t, "the last needs no Subject", alone, 0, 0)
}

func TestSignaturesAlongAPath(t *testing.T) {
	for at := range 3 {
		for n := range 6 {
			w := plainTrail(3)
			w.turned = append(w.turned, func(path []impl.Cert) { path[at] = signedWith(path[at], n) })
			if n == w.signer(at) {
				wantCheck(t, "signed by the one above", w, 0, 0)
			} else {
				wantCheck(t, "signed by another", w, impl.PcSig, at)
			}
		}
		turns := []func(c *impl.Cert){
			func(c *impl.Cert) { c.Sig = nil },
			func(c *impl.Cert) { c.Sig[0] ^= 1 },
			func(c *impl.Cert) { c.Sig = append(c.Sig, 0) },
			func(c *impl.Cert) { c.Serial++ },
			func(c *impl.Cert) { c.Policies = nil },
			func(c *impl.Cert) { c.To++ },
		}
		for _, turn := range turns {
			w := plainTrail(3)
			w.turned = append(w.turned, func(path []impl.Cert) { turn(&path[at]) })
			wantCheck(t, "turned behind the signing", w, impl.PcSig, at)
		}
	}
}

// treePath is one whose keys are trees, the anchor's too.
func treePath(t *testing.T, w *trail) ([]impl.Cert, impl.Anchor) {
	t.Helper()
	secret := impl.Secret{Scheme: impl.ScTree, X: 99, Height: 1}
	a := w.anchor
	a.Key, _ = impl.PubOf(secret)
	var out []impl.Cert
	for i, c := range w.certs {
		below := impl.Secret{Scheme: impl.ScTree, X: uint64(i), Height: int64(i % 3)}
		c.Key, _ = impl.PubOf(below)
		signed, _, code := impl.IssueCert(c, secret)
		if code != 0 {
			t.Fatal(code)
		}
		out = append(out, signed)
		secret = below
	}
	return out, a
}

func TestAPathOfTrees(t *testing.T) {
	w := plainTrail(4)
	path, a := treePath(t, w)
	if code, at := impl.Check(path, a, w.ask); code != 0 || at != 0 {
		t.Error(code, at)
	}
	if code, at := impl.Check(path, w.anchor, w.ask); code != impl.PcSig || at != 0 {
		t.Error("another anchor's key", code, at)
	}
	path[2].Sig = slices.Clone(path[3].Sig)
	if code, at := impl.Check(path, a, w.ask); code != impl.PcSig || at != 2 {
		t.Error("another one's signature", code, at)
	}
}

func TestListsAndPaths(t *testing.T) {
	for at := range 3 {
		w := plainTrail(3)
		serial, issuer := w.certs[at].Serial, w.certs[at].Issuer
		w.ask.Hard, w.ask.Lists = true, goodLists(w)
		wantCheck(t, "all lists say good", w, 0, 0)
		w.ask.Lists[at].Scope = allReasons - 2
		wantCheck(t, "a reason is not spoken of", w, impl.PcUnknown, at)
		w.ask.Hard = false
		wantCheck(t, "a reason is not spoken of, and it is not Hard", w, 0, 0)
		w.ask.Lists[at].Entries = []impl.Gone{goneAt(serial, 3, impl.RsHold)}
		wantCheck(t, "gone", w, impl.PcGone, at)
		w.ask.Hard = true
		wantCheck(t, "gone, and Hard", w, impl.PcGone, at)
		w.ask.Lists[at].Entries[0].Serial = 99
		wantCheck(t, "another is gone, and Hard", w, impl.PcUnknown, at)
		w.ask.Hard = false
		wantCheck(t, "another is gone", w, 0, 0)
		w.ask.Lists[at].Scope, w.ask.Lists[at].Entries[0].Serial = allReasons, serial
		w.ask.Lists[at].Next, w.ask.Lists[at].At = pathAt, pathAt-5
		wantCheck(t, "the list is over", w, 0, 0)
		w.ask.Lists[at].Next = pathAt + 1
		wantCheck(t, "the list holds just now", w, impl.PcGone, at)
		w.ask.Lists[at].Base, w.ask.Lists[at].Number = 1, 2
		wantCheck(t, "a delta does not speak", w, 0, 0)
		w.ask.Lists = []impl.Crl{othersList(1, goneAt(serial, 3, impl.RsKey))}
		w.ask.Lists[0].At, w.ask.Lists[0].Entries[0].Issuer = 5, copyName(issuer)
		wantCheck(t, "a list for others", w, impl.PcGone, at)
		w.ask.Lists[0].Entries[0].Issuer = partsOf("another")
		w.ask.Hard = true
		wantCheck(t, "a list for others, of another one, speaks of all", w, 0, 0)
	}
}

func TestLoops(t *testing.T) {
	for at := 1; at < 5; at++ {
		for earlier := range at {
			w := plainTrail(5)
			w.rename(at, w.certs[earlier].Subject)
			wantCheck(t, "the same Subject, another Key", w, 0, 0)
			w.keys[at] = w.keys[earlier]
			wantCheck(t, "the same Subject and Key", w, impl.PcLoop, at)
			w.rename(at, subjectNo(at))
			wantCheck(t, "the same Key, another Subject", w, 0, 0)
			w.rename(at, partsOf("X", "  SUBJECT "+string(rune('0'+earlier))))
			wantCheck(t, "the same Subject, written otherwise", w, impl.PcLoop, at)
		}
	}
	w := plainTrail(2)
	w.rename(0, w.anchor.Name)
	w.keys[0] = 0
	wantCheck(t, "the anchor is not in the path", w, 0, 0)
}

func TestWhoMayBeAbove(t *testing.T) {
	for at := range 3 {
		w := plainTrail(3)
		c := &w.certs[at]
		c.IsCA, c.Uses = true, 255
		wantCheck(t, "an authority for all", w, 0, 0)
		c.Uses = 255 - impl.UsCert
		if at == w.last() {
			wantCheck(t, "the last need not issue", w, 0, 0)
		} else {
			wantCheck(t, "without UsCert", w, impl.PcCA, at)
		}
		c.IsCA, c.Uses = false, 255
		if at == w.last() {
			wantCheck(t, "the last need not be one", w, 0, 0)
		} else {
			wantCheck(t, "no authority", w, impl.PcCA, at)
		}
	}
}

func TestRoom(t *testing.T) {
	for count := 1; count <= impl.MaxPath; count++ {
		for at := range count {
			for room := int64(-1); room <= 10; room++ {
				w := plainTrail(count)
				w.certs[at].IsCA = true
				w.certs[at].Room = room
				below := int64(max(0, count-at-2))
				if room >= 0 && below > room {
					wantCheck(t, "too little room", w, impl.PcRoom, at)
				} else {
					wantCheck(t, "room", w, 0, 0)
				}
			}
		}
	}
}

func TestRoomWithSomeThatAreSelf(t *testing.T) {
	for mask := range 1 << 6 {
		w := plainTrail(7)
		below := int64(0)
		for at := 1; at < 6; at++ {
			if mask>>at&1 == 1 {
				w.makeSelf(at)
			} else {
				below++
			}
		}
		if mask&1 == 1 {
			// The last one is not counted, whether it is Self or not.
			w.makeSelf(6)
			w.certs[6].Subject = copyName(w.certs[6].Issuer)
		}
		w.certs[0].Room = below
		wantCheck(t, "met exactly", w, 0, 0)
		if below > 0 {
			w.certs[0].Room = below - 1
			wantCheck(t, "passed by one", w, impl.PcRoom, 0)
		}
	}
	w := plainTrail(4)
	w.makeSelf(0)
	w.certs[0].Room = 2
	w.certs[1].Room = 0
	wantCheck(t, "the second has no room", w, impl.PcRoom, 1)
	w.certs[1].Room = 1
	wantCheck(t, "both have room", w, 0, 0)
}

func TestNamesAlongAPath(t *testing.T) {
	for count := 1; count <= 4; count++ {
		for at := range count {
			for above := -1; above < at; above++ {
				checkNamesAt(t, count, at, above)
			}
		}
	}
}

// checkNamesAt lets the anchor, or the certificate above, permit or deny the name of the one at a place.
func checkNamesAt(t *testing.T, count int, at int, above int) {
	t.Helper()
	lists := func(w *trail) (*[]impl.GenName, *[]impl.GenName) {
		if above < 0 {
			return &w.anchor.Permit, &w.anchor.Deny
		}
		return &w.certs[above].Permit, &w.certs[above].Deny
	}
	w := plainTrail(count)
	w.certs[at].Names = gens(hostGen("a.b.c"))
	permit, deny := lists(w)
	*permit = gens(hostGen("b.c"), nameGen("x"))
	wantCheck(t, "permitted", w, 0, 0)
	*permit = gens(hostGen("c.c"))
	wantCheck(t, "not permitted", w, impl.PcNames, at)
	*permit = gens(hostGen("c.c"), hostGen("a.b.c"))
	wantCheck(t, "one permits", w, 0, 0)
	*deny = gens(hostGen("q.a.b.c"), hostGen("c.c"))
	wantCheck(t, "something else is denied", w, 0, 0)
	*deny = gens(hostGen("q.a.b.c"), hostGen("c"))
	wantCheck(t, "denied", w, impl.PcNames, at)
	*permit, *deny = nil, gens(nameGen("X", "Subject "+string(rune('0'+at))))
	wantCheck(t, "its Subject is denied", w, impl.PcNames, at)
	*permit, *deny = nil, gens(nameGen("x", "q"))
	wantCheck(t, "another Subject is denied", w, 0, 0)
	w.makeSelf(at)
	*permit, *deny = nil, gens(hostGen("c"))
	if at == w.last() {
		wantCheck(t, "the last is Self and denied", w, impl.PcNames, at)
	} else {
		wantCheck(t, "Self and denied", w, 0, 0)
	}
}

func TestNamesEachByItself(t *testing.T) {
	w := plainTrail(3)
	w.certs[2].Names = gens(hostGen("a.x"), hostGen("a.y"))
	w.anchor.Permit = gens(hostGen("x"), hostGen("y"))
	wantCheck(t, "the anchor permits both", w, 0, 0)
	w.certs[0].Permit, w.certs[1].Permit = gens(hostGen("x")), gens(hostGen("y"))
	wantCheck(t, "two that permit one each do not permit both", w, impl.PcNames, 2)
	w.certs[0].Permit = gens(hostGen("x"), hostGen("y"))
	wantCheck(t, "one still does not", w, impl.PcNames, 2)
	w.certs[1].Permit = gens(mailGen("x"))
	wantCheck(t, "one that speaks of mail alone", w, 0, 0)
	w.certs[2].IsCA, w.certs[2].Permit, w.certs[2].Deny = true, gens(hostGen("z")), gens(hostGen("x"))
	wantCheck(t, "its own are not for itself", w, 0, 0)
	w.certs[1].Names = gens(hostGen("q"))
	wantCheck(t, "those on the way are held to them too", w, impl.PcNames, 1)
	w.makeSelf(1)
	wantCheck(t, "but one that is Self", w, 0, 0)
	w.certs[1].Deny = gens(hostGen("x"))
	wantCheck(t, "which says what is denied below it", w, impl.PcNames, 2)
}

func TestExtsThatAreNotUnderstood(t *testing.T) {
	for at := range 3 {
		w := plainTrail(3)
		c := &w.certs[at]
		c.Exts = []impl.Ext{{Id: 1}, {Id: 2, Critical: true}, {Id: 7, Value: []byte{1}}, {Id: 1000, Critical: true}}
		wantCheck(t, "none is known", w, impl.PcExt, at)
		w.ask.Known = []int64{2}
		wantCheck(t, "one is known", w, impl.PcExt, at)
		w.ask.Known = []int64{1000, 7, 1}
		wantCheck(t, "another is known", w, impl.PcExt, at)
		w.ask.Known = []int64{5, 1000, 2}
		wantCheck(t, "all that are critical are known", w, 0, 0)
		w.ask.Known, c.Exts[1].Critical, c.Exts[3].Critical = nil, false, false
		wantCheck(t, "none is critical", w, 0, 0)
	}
}

func TestUsesOfTheLast(t *testing.T) {
	for uses := range int64(256) {
		w := plainTrail(2)
		w.certs[1].Uses = uses
		for _, asked := range []int64{0, 1, 8, 128, 255, uses, uses ^ 255, uses | 16, uses &^ 4} {
			w.ask.Uses = asked
			if asked|uses == uses {
				wantCheck(t, "all are there", w, 0, 0)
			} else {
				wantCheck(t, "one is not there", w, impl.PcUse, 1)
			}
		}
	}
}

func TestWhatIsWanted(t *testing.T) {
	names := gens(hostGen("*.x.y"), hostGen("a.b"), mailGen("u@x.y"), addrGen(5, 0), nameGen("N n", "m"))
	rows := []struct {
		why  string
		want impl.GenName
		ok   bool
	}{
		{"a host by its pattern", hostGen("q.x.y"), true}, {"the host of the pattern", hostGen("x.y"), false}, {"two labels below", hostGen("p.q.x.y"), false}, {"the pattern itself", hostGen("*.x.y"), false}, {"a wild host of another", hostGen("*.b.c"), false},
		{"a host as it is", hostGen("a.b"), true}, {"a host below it", hostGen("q.a.b"), false}, {"a host above it", hostGen("b"), false},
		{"a mail", mailGen("u@x.y"), true}, {"another user", mailGen("v@x.y"), false}, {"another host", mailGen("u@a.b"), false},
		{"an address", addrGen(5, 0), true}, {"another address", addrGen(4, 0), false}, {"the first address", addrGen(0, 0), false},
		{"a name", nameGen("N n", "m"), true}, {"the name written otherwise", nameGen(" n  N", "M "), true}, {"a name above", nameGen("N n"), false}, {"a name below", nameGen("N n", "m", "o"), false}, {"the Subject", impl.GenName{Kind: impl.GnName, Name: subjectNo(1)}, false},
		{"a name with another Attr", impl.GenName{Kind: impl.GnName, Name: impl.Name{Parts: []impl.Part{{Attr: 2, Value: "N n"}, {Attr: 2, Value: "m"}}}}, false},
		{"nothing", impl.GenName{}, true},
	}
	for _, row := range rows {
		w := plainTrail(2)
		w.certs[1].Names = names
		w.ask.Want = row.want
		if row.ok {
			wantCheck(t, row.why, w, 0, 0)
		} else {
			wantCheck(t, row.why, w, impl.PcWant, 1)
		}
		w.certs[0].Names, w.certs[1].Names = names, nil
		if row.want.Kind != 0 {
			wantCheck(t, "only the last one's Names count: "+row.why, w, impl.PcWant, 1)
		}
	}
}

func TestPoliciesOfAPath(t *testing.T) {
	w := plainTrail(3)
	for i := range w.certs {
		w.certs[i].Policies = []int64{7}
	}
	w.ask.Policies = []int64{8}
	wantCheck(t, "none is needed", w, 0, 0)
	w.ask.Need = true
	wantCheck(t, "one is needed, and it is another", w, impl.PcPolicy, 2)
	w.ask.Policies = []int64{8, 7}
	wantCheck(t, "one of those that are asked for", w, 0, 0)
	w.ask.Policies = []int64{0}
	wantCheck(t, "any is asked for", w, 0, 0)
	w.certs[1].Policies = []int64{0}
	wantCheck(t, "any on the way", w, 0, 0)
	w.ask.NoAny = true
	wantCheck(t, "any does not count", w, impl.PcPolicy, 2)
	w.makeSelf(1)
	wantCheck(t, "any counts in one that is Self", w, 0, 0)
	w.ask.NoAny = false
	w.certs[1].Policies, w.certs[1].Maps, w.certs[2].Policies = []int64{7}, []impl.PolMap{{From: 7, To: 9}}, []int64{9}
	wantCheck(t, "a map", w, 0, 0)
	w.ask.NoMap = true
	wantCheck(t, "maps do not count", w, impl.PcPolicy, 2)
	w.ask.Need = false
	wantCheck(t, "maps do not count, and none is needed", w, 0, 0)
	w.certs[0].NeedPolicy = 0
	wantCheck(t, "the first says that one is needed", w, impl.PcPolicy, 2)
	w.ask.NoMap = false
	wantCheck(t, "maps count again", w, 0, 0)
	w.certs[0].NoMap = 0
	wantCheck(t, "the first says that they don't", w, impl.PcPolicy, 2)
	w.certs[0].NoMap, w.certs[1].Maps, w.certs[1].Policies = -1, nil, []int64{0}
	w.certs[0].Policies = []int64{9}
	wantCheck(t, "any again", w, 0, 0)
	w.rename(1, subjectNo(1))
	w.certs[0].NoAny = 0
	wantCheck(t, "the first says that any does not count", w, impl.PcPolicy, 2)
}

func TestPins(t *testing.T) {
	for count := 1; count <= 4; count++ {
		for pin := range count + 3 {
			w := plainTrail(count)
			w.ask.Pins = []uint64{5, impl.KeyId(pubNo(pin)), math.MaxUint64}
			if pin <= count {
				wantCheck(t, "of the anchor, or of one certificate", w, 0, 0)
			} else {
				wantCheck(t, "of none", w, impl.PcPin, count-1)
			}
		}
		w := plainTrail(count)
		w.ask.Pins = []uint64{0}
		wantCheck(t, "the pin 0", w, impl.PcPin, count-1)
		w.ask.Pins = []uint64{}
		wantCheck(t, "no Pins", w, 0, 0)
		w.ask.Pins = slices.Repeat([]uint64{9}, 20)
		w.ask.Pins[19] = impl.KeyId(pubNo(count))
		wantCheck(t, "the last of 20", w, 0, 0)
		w.ask.Pins[19] = impl.Finger(w.path()[0])
		wantCheck(t, "a finger is no pin", w, impl.PcPin, count-1)
	}
}

func TestCertificatesThatAreNotRightInAPath(t *testing.T) {
	for _, row := range certCases() {
		if row.want {
			continue
		}
		for at := range 2 {
			w := plainTrail(2)
			w.turned = append(w.turned, func(path []impl.Cert) { path[at] = row.c })
			wantCheck(t, row.why, w, impl.PcForm, at)
		}
	}
}

func TestChecksOfAnyPath(t *testing.T) {
	r := rand.New(rand.NewSource(132))
	seen := map[fault]int{}
	for range 6000 {
		code, at := checkSlowly(t, anyTrail(r))
		if t.Failed() {
			t.FailNow()
		}
		seen[fault{code, int(at)}]++
	}
	if seen[fault{}] < 500 {
		t.Error("too few are accepted", seen[fault{}])
	}
	for _, b := range append(stepBreakers(), lastBreakers()...) {
		for _, at := range b.places(4) {
			if seen[fault{b.code, at}] == 0 {
				t.Error("never met:", b.code, "at", at)
			}
		}
	}
}

// stricter asks for more in one way.
func stricter(r *rand.Rand, w *trail) impl.Ask {
	q := w.ask
	switch r.Intn(10) {
	case 0:
		q.Uses |= 1 << r.Intn(8)
	case 1:
		if q.Want.Kind == 0 {
			q.Want = oneOf(r, hostGen("a.x.y"), mailGen("u@x.y"), addrGen(5, 0))
		}
	case 2:
		if len(q.Policies) > 1 {
			q.Policies = q.Policies[:1+r.Intn(len(q.Policies)-1)]
		}
	case 3:
		q.Need = true
	case 4:
		q.NoMap = true
	case 5:
		q.NoAny = true
	case 6:
		if len(q.Known) > 0 {
			q.Known = q.Known[:r.Intn(len(q.Known))]
		}
	case 7:
		if !q.Hard {
			q.Lists = append(slices.Clone(q.Lists), anyPathList(r, w))
		}
	case 8:
		q.Hard = true
	case 9:
		if len(q.Pins) == 0 {
			q.Pins = []uint64{impl.KeyId(pubNo(r.Intn(9)))}
		} else {
			q.Pins = q.Pins[:1]
		}
	}
	return q
}

func TestWhatIsAskedMoreStrictlyAcceptsNoMore(t *testing.T) {
	r := rand.New(rand.NewSource(133))
	accepted, dropped := 0, 0
	for range 2500 {
		w := anyTrail(r)
		path := w.path()
		for range 4 {
			code, _ := impl.Check(path, w.anchor, w.ask)
			q := stricter(r, w)
			strictCode, _ := impl.Check(path, w.anchor, q)
			if strictCode == 0 && code != 0 {
				t.Fatal("more is accepted of", q, "than of", w.ask)
			}
			if strictCode == 0 {
				accepted++
			} else if code == 0 {
				dropped++
			}
			w.ask = q
		}
	}
	if accepted < 300 || dropped < 200 {
		t.Error("too few", accepted, dropped)
	}
}

func TestAListMoreWithHardMayMakeKnown(t *testing.T) {
	w := plainTrail(2)
	w.ask.Hard, w.ask.Lists = true, goodLists(w)[:1]
	wantCheck(t, "the second is unknown", w, impl.PcUnknown, 1)
	w.ask.Lists = goodLists(w)
	wantCheck(t, "a list more makes it known", w, 0, 0)
}

func TestNobodyStandsForNamesOutsideWhatIsPermitted(t *testing.T) {
	r := rand.New(rand.NewSource(134))
	held := 0
	for range 3000 {
		w := anyTrail(r)
		path := w.path()
		if code, _ := impl.Check(path, w.anchor, w.ask); code != 0 {
			continue
		}
		above := []impl.Cert{{Permit: w.anchor.Permit, Deny: w.anchor.Deny}}
		for i, c := range path {
			names := append(slices.Clone(c.Names), impl.GenName{Kind: impl.GnName, Name: c.Subject})
			for _, a := range above {
				if slowSelf(c) && i < len(path)-1 {
					continue
				}
				for _, g := range names {
					checkPermitted(t, g, a)
					held += len(a.Permit)
				}
			}
			above = append(above, c)
		}
	}
	if held < 1000 {
		t.Error("too few names were held to what is permitted", held)
	}
}

func checkPermitted(t *testing.T, g impl.GenName, a impl.Cert) {
	t.Helper()
	within := func(base impl.GenName) bool { return impl.Within(g, base) }
	sameKind := func(base impl.GenName) bool { return base.Kind == g.Kind }
	if slices.ContainsFunc(a.Permit, sameKind) && !slices.ContainsFunc(a.Permit, within) || slices.ContainsFunc(a.Deny, within) {
		t.Fatal("somebody stands for", g, "with", a.Permit, a.Deny)
	}
}
