package tests

import (
	"bytes"
	"math"
	"math/rand"
	"slices"
	"testing"

	"loop.example/g00041/impl"
)

func TestServiceConstants(t *testing.T) {
	got := []int64{impl.MaxAllow, impl.MtForm, impl.MtServer, impl.MtSign, impl.MtClient, impl.MtAllow}
	if !slices.Equal(got, []int64{20, 1, 2, 3, 4, 5}) {
		t.Error(got)
	}
}

// allowedCert has a name of each Kind, and a Subject.
func allowedCert() impl.Cert {
	c := endCert()
	c.Names = gens(hostGen("a.x.y"), hostGen("*.w.y"), mailGen("u@x.y"), addrGen(1<<31+5, 0), nameGen("n", "m"))
	c.Subject = partsOf("S", "t")
	return c
}

func wantAllowed(t *testing.T, why string, rules []impl.AllowRule, c impl.Cert, action int64, want bool) {
	t.Helper()
	if got := impl.Allowed(rules, c, action); got != want {
		t.Error(why, "got", got)
	}
	if slow := slowAllowed(rules, c, action); slow != want {
		t.Error(why, "the second reading says", slow)
	}
}

func lets(base impl.GenName, action int64) impl.AllowRule {
	return impl.AllowRule{Base: base, Action: action, Yes: true}
}

func bars(base impl.GenName, action int64) impl.AllowRule {
	return impl.AllowRule{Base: base, Action: action}
}

func TestTheFirstRuleThatSpeaks(t *testing.T) {
	in, out := hostGen("x.y"), hostGen("q")
	cases := []struct {
		why   string
		rules []impl.AllowRule
		want  bool
	}{
		{"no rules", nil, false},
		{"one that allows", []impl.AllowRule{lets(in, 0)}, true}, {"one that does not", []impl.AllowRule{bars(in, 0)}, false},
		{"one for the action", []impl.AllowRule{lets(in, 7)}, true}, {"one that does not, for the action", []impl.AllowRule{bars(in, 7)}, false},
		{"one for another action", []impl.AllowRule{lets(in, 8)}, false}, {"one for an action below", []impl.AllowRule{lets(in, -7)}, false},
		{"one of another", []impl.AllowRule{lets(out, 0)}, false}, {"one of another, for the action", []impl.AllowRule{lets(out, 7)}, false},
		{"ahead of one that does not", []impl.AllowRule{lets(in, 0), bars(in, 0)}, true}, {"behind one that does not", []impl.AllowRule{bars(in, 0), lets(in, 0)}, false},
		{"for all ahead of the action", []impl.AllowRule{lets(in, 0), bars(in, 7)}, true}, {"for the action ahead of all", []impl.AllowRule{lets(in, 7), bars(in, 0)}, true},
		{"not for all ahead of the action", []impl.AllowRule{bars(in, 0), lets(in, 7)}, false}, {"not for the action ahead of all", []impl.AllowRule{bars(in, 7), lets(in, 0)}, false},
		{"behind another action", []impl.AllowRule{bars(in, 6), lets(in, 0)}, true}, {"behind another name", []impl.AllowRule{bars(out, 0), lets(in, 7)}, true},
		{"behind both", []impl.AllowRule{bars(out, 7), bars(in, 8), bars(out, 8), lets(in, 7), bars(in, 7)}, true},
		{"not, behind both", []impl.AllowRule{lets(out, 7), lets(in, 8), lets(out, 8), bars(in, 7), lets(in, 7)}, false},
		{"by another name of it", []impl.AllowRule{bars(out, 0), lets(mailGen("x.y"), 0), bars(in, 0)}, true},
		{"not by another name of it", []impl.AllowRule{bars(out, 0), bars(mailGen("x.y"), 0), lets(in, 0)}, false},
	}
	for _, row := range cases {
		wantAllowed(t, row.why, row.rules, allowedCert(), 7, row.want)
	}
}

func TestBasesOfRules(t *testing.T) {
	for _, row := range []struct {
		base impl.GenName
		want bool
	}{
		{hostGen("a.x.y"), true}, {hostGen("x.y"), true}, {hostGen("y"), true}, {hostGen("w.y"), true}, {hostGen("b.x.y"), false}, {hostGen("b.a.x.y"), false}, {hostGen("c.w.y"), false}, {hostGen("s"), false},
		{mailGen("u@x.y"), true}, {mailGen("x.y"), true}, {mailGen(".y"), true}, {mailGen(".x.y"), false}, {mailGen("v@x.y"), false}, {mailGen("y"), false},
		{addrGen(1<<31+5, 32), true}, {addrGen(1<<31, 1), true}, {addrGen(0, 0), true}, {addrGen(0, 1), false}, {addrGen(1<<31+4, 32), false},
		{nameGen("n", "m"), true}, {nameGen(" N "), true}, {nameGen("n", "m", "o"), false}, {nameGen("m"), false},
		{nameGen("s"), true}, {nameGen("s", "T"), true}, {nameGen("S", "u"), false}, {nameGen("s", "t", "u"), false}, {impl.GenName{Kind: impl.GnName}, true},
	} {
		wantAllowed(t, toldOf(row.base), []impl.AllowRule{lets(row.base, 0)}, allowedCert(), 1, row.want)
		wantAllowed(t, toldOf(row.base), []impl.AllowRule{bars(row.base, 0), lets(hostGen("y"), 0)}, allowedCert(), 1, !row.want)
	}
}

func TestRulesOfTheSubjectAlone(t *testing.T) {
	bySubject := allowedCert()
	bySubject.Names = nil
	byNames := allowedCert()
	byNames.Subject = impl.Name{}
	hostsAlone := allowedCert()
	hostsAlone.Subject, hostsAlone.Names = impl.Name{}, gens(hostGen("a.x.y"))
	all := []impl.AllowRule{lets(impl.GenName{Kind: impl.GnName}, 0)}
	wantAllowed(t, "by the subject", []impl.AllowRule{lets(nameGen("s"), 0)}, bySubject, 1, true)
	wantAllowed(t, "any subject", all, bySubject, 1, true)
	wantAllowed(t, "no host", []impl.AllowRule{lets(hostGen("y"), 0)}, bySubject, 1, false)
	wantAllowed(t, "no subject", []impl.AllowRule{lets(nameGen("s"), 0)}, byNames, 1, false)
	wantAllowed(t, "a name among the names", all, byNames, 1, true)
	wantAllowed(t, "nothing that is a name", all, hostsAlone, 1, false)
	wantAllowed(t, "nothing that is a name, but a host", append(all, lets(hostGen("x.y"), 0)), hostsAlone, 1, true)
}

func TestRulesAboutTheirLimits(t *testing.T) {
	c, yes := allowedCert(), lets(hostGen("y"), 0)
	for _, count := range []int{1, 2, 19, 20, 21, 22, 40, 1000} {
		wantAllowed(t, "so many rules", slices.Repeat([]impl.AllowRule{yes}, count), c, 1, count <= 20)
		rules := slices.Repeat([]impl.AllowRule{bars(hostGen("q"), 0)}, count)
		rules[count-1] = yes
		wantAllowed(t, "the last of so many rules", rules, c, 1, count <= 20)
	}
	for _, action := range []int64{1, 2, 3, 1000, math.MaxInt64} {
		wantAllowed(t, "an action", []impl.AllowRule{yes}, c, action, true)
		wantAllowed(t, "the action", []impl.AllowRule{lets(hostGen("y"), action)}, c, action, true)
		wantAllowed(t, "another action", []impl.AllowRule{lets(hostGen("y"), action-1)}, c, action, action == 1)
	}
	for _, action := range []int64{0, -1, -2, -1000, math.MinInt64} {
		wantAllowed(t, "no action", []impl.AllowRule{yes}, c, action, false)
		wantAllowed(t, "no action, but a rule for it", []impl.AllowRule{lets(hostGen("y"), action)}, c, action, false)
	}
	noBases := gens(impl.GenName{}, hostGen("*.a.b"), hostGen(""), mailGen("@a"), addrGen(1, 31), addrGen(0, 33), impl.GenName{Kind: 5}, impl.GenName{Kind: impl.GnHost, Text: "y", Bits: 1}, nameGen(" "))
	for _, base := range noBases {
		for at := range 4 {
			rules := []impl.AllowRule{yes, yes, yes}
			rules = slices.Insert(rules, at, impl.AllowRule{Base: base, Action: int64(at), Yes: true})
			wantAllowed(t, "a base that is none "+toldOf(base), rules, c, 1, false)
		}
	}
}

func TestCertificatesThatRulesAreAskedOf(t *testing.T) {
	all := []impl.AllowRule{lets(impl.GenName{Kind: impl.GnName}, 0), lets(addrGen(0, 0), 0), lets(hostGen("y"), 0)}
	count := 0
	for _, row := range certCases() {
		if !row.want {
			wantAllowed(t, row.why, all, row.c, 1, false)
		} else if len(row.c.Subject.Parts) > 0 {
			wantAllowed(t, row.why, all, row.c, 1, true)
			count++
		}
	}
	if count < 50 {
		t.Error("few that are right", count)
	}
	wantAllowed(t, "no certificate", all, impl.Cert{}, 1, false)
	wantAllowed(t, "one with much in it", all, greatCert(), 1, true)
	unsigned := allowedCert()
	unsigned.Sig = nil
	wantAllowed(t, "one that nobody signed", all, unsigned, 1, true)
}

func TestAllowedByAnyRules(t *testing.T) {
	r := rand.New(rand.NewSource(2301))
	counts := map[bool]int{}
	for range 20000 {
		c := endCert()
		c.Names = someNames(r, 3, hostGen("a.x.y"), hostGen("*.x.y"), mailGen("u@x.y"), addrGen(5, 0), nameGen("x", "N"))
		c.Subject = oneOf(r, impl.Name{}, partsOf("x"), partsOf("q", "r"))
		if r.Intn(20) == 0 {
			c.Serial = 0
		}
		rules, action := anyAllowRules(r, 6), oneOf[int64](r, 1, 2, 3, 0, -1)
		got := impl.Allowed(rules, c, action)
		if got != slowAllowed(rules, c, action) {
			t.Fatal(toldOf(rules), toldOf(c), action, got)
		}
		counts[got]++
	}
	if counts[true] < 1500 || counts[false] < 2000 {
		t.Error(counts)
	}
}

func TestServicesMeet(t *testing.T) {
	wantMet(t, "both are known", plainEncounter(), 0)
	wantMet(t, "nobody asks who comes", stranger(), 0)
	wantMet(t, "who comes has no path", stranger().with(func(e *encounter) { e.a.Path = nil }), 0)
	wantMet(t, "who comes has no path, and no secret", stranger().with(func(e *encounter) { e.a.Path, e.a.Secret = nil, impl.Secret{} }), 0)
	wantMet(t, "who comes has rules", plainEncounter().with(func(e *encounter) { e.a.Rules = slices.Repeat([]impl.AllowRule{{}}, 50) }), 0)
	wantMet(t, "a wild name", plainEncounter().with(func(e *encounter) { e.host = "v.w.y" }), 0)
	wantMet(t, "rules without anchors", stranger().with(func(e *encounter) { e.b.Rules = plainEncounter().b.Rules }), impl.MtAllow)
	wantMet(t, "a rule that is none without anchors", stranger().with(func(e *encounter) { e.b.Rules = []impl.AllowRule{{}} }), impl.MtAllow)
}

// Byte by byte, from what the document says: an item of four byte lists, of which the last two are Fingers.
func TestWhatWasSaid(t *testing.T) {
	e := plainEncounter()
	fingerA, fingerB := eight(impl.Finger(e.a.Path[1])), eight(impl.Finger(e.b.Path[1]))
	for _, known := range []bool{true, false} {
		if !known {
			e, fingerA = stranger(), make([]byte, 8)
		}
		said := slices.Concat([]byte{116, 29, 4, 3, 1, 2, 3, 4, 2, 4, 5, 4, 8}, fingerA, []byte{4, 8}, fingerB)
		got := wantMet(t, "met", e, 0)
		sigA, _, _ := impl.SignAny(e.a.Secret, said)
		sigB, _, _ := impl.SignAny(e.b.Secret, said)
		if !known {
			sigA = nil
		}
		whole := slices.Concat([]byte{2, 7}, []byte("session"), []byte{byte(len(said))}, said)
		if got.Key != slowDigest(whole) || !bytes.Equal(got.SigA, sigA) || !bytes.Equal(got.SigB, sigB) || got.Known != known {
			t.Error("not so", known, toldOf(got))
		}
	}
}

func TestMeetTellsItsCodes(t *testing.T) {
	for _, b := range meetBreakers() {
		wantMet(t, b.why, plainEncounter().with(b.put), b.code)
	}
	for _, b := range slices.Concat(meetFormBreakers(), serverBreakers(), lateBreakers()[:2]) {
		e := stranger()
		e.b.Anchors = []impl.Anchor{rootOf(clientKeys), rootOf(clientKeys)}
		e = e.with(b.put, func(e *encounter) {
			if len(e.b.Anchors) == 2 && impl.AnchorOk(e.b.Anchors[0]) {
				e.b.Anchors = nil
			}
		})
		wantMet(t, "nobody asks: "+b.why, e, b.code)
	}
	for _, b := range append(clientBreakers(), lateBreakers()[2]) {
		wantMet(t, "nobody asks, so that it does not count: "+b.why, plainEncounter().with(b.put, func(e *encounter) { e.b.Anchors, e.b.Rules = nil, nil }), 0)
	}
}

// Of two faults the one is told that comes first, in whatever order they are made.
func TestMeetTellsTheFirstCode(t *testing.T) {
	all := meetBreakers()
	count := 0
	for _, x := range all {
		for _, y := range all {
			if x.rank >= y.rank {
				continue
			}
			// What makes a side not right may take away what the other one is made in.
			if x.rank > 1 {
				wantMet(t, x.why+", "+y.why, plainEncounter().with(y.put, x.put), x.code)
			}
			e := plainEncounter().with(y.put)
			if len(e.a.Path) == 2 && len(e.b.Path) == 2 && len(e.b.Anchors) == 2 && len(e.b.Rules) > 0 {
				wantMet(t, y.why+", "+x.why, e.with(x.put), x.code)
				count++
			}
		}
	}
	if count < 500 {
		t.Error("few pairs", count)
	}
}

func TestPathsOfSidesAboutTheirLimits(t *testing.T) {
	for count := 1; count <= 10; count++ {
		w := plainTrail(count)
		for i := range w.keys {
			w.keys[i] += 500
		}
		w.certs[count-1].Uses = 255
		w.certs[count-1].Names = gens(hostGen("b.x.y"), mailGen("u@a.y"))
		long := func(s *impl.Side, other *impl.Side) {
			s.Path, s.Secret = w.path(), secretNo(500+count)
			other.Anchors = []impl.Anchor{plainAnchor()}
		}
		want := int64(0)
		if count > impl.MaxPath {
			want = impl.MtForm
		}
		wantMet(t, "a long path of b", plainEncounter().with(func(e *encounter) { long(&e.b, &e.a) }), want)
		wantMet(t, "a long path of a", plainEncounter().with(func(e *encounter) { long(&e.a, &e.b) }), want)
		wantMet(t, "a long path of a that nobody asks for", stranger().with(func(e *encounter) { long(&e.a, &impl.Side{}) }), want)
	}
}

func TestAnchorsOfSidesAboutTheirLimits(t *testing.T) {
	for _, count := range []int{1, 2, 5, 6, 7, 8, 100} {
		for at := range min(count, 8) {
			for _, ofA := range []bool{true, false} {
				anchors := slices.Repeat([]impl.Anchor{rootOf(300)}, count)
				keys, want := clientKeys, int64(0)
				if ofA {
					keys = serverKeys
				}
				anchors[at] = rootOf(keys)
				if count > 6 {
					want = impl.MtForm
				}
				put := func(e *encounter) {
					if ofA {
						e.a.Anchors = anchors
					} else {
						e.b.Anchors = anchors
					}
				}
				wantMet(t, "so many anchors", plainEncounter().with(put), want)
				if count <= 6 {
					anchors[at] = rootOf(301)
					want = impl.MtClient
					if ofA {
						want = impl.MtServer
					}
					wantMet(t, "so many others", plainEncounter().with(put), want)
				}
			}
		}
	}
}

// An anchor that accepts may stand ahead of, or behind, one that fails for another reason.
func TestAnyAnchorThatAccepts(t *testing.T) {
	for _, fails := range []func(a *impl.Anchor){
		func(a *impl.Anchor) { a.Until = pathFrom - 1 }, func(a *impl.Anchor) { a.Key = pubNo(9) }, func(a *impl.Anchor) { a.Name = partsOf("z") },
		func(a *impl.Anchor) { a.Deny = gens(impl.GenName{Kind: impl.GnName}) }, func(a *impl.Anchor) { a.Permit = gens(nameGen("z")) },
	} {
		for _, first := range []bool{true, false} {
			pair := func(keys int) []impl.Anchor {
				good, bad := rootOf(keys), rootOf(keys)
				fails(&bad)
				if first {
					return []impl.Anchor{bad, good}
				}
				return []impl.Anchor{good, bad}
			}
			wantMet(t, "one of two of a's", plainEncounter().with(func(e *encounter) { e.a.Anchors = pair(serverKeys) }), 0)
			wantMet(t, "one of two of b's", plainEncounter().with(func(e *encounter) { e.b.Anchors = pair(clientKeys) }), 0)
			only := func(keys int) []impl.Anchor {
				bad := rootOf(keys)
				fails(&bad)
				return []impl.Anchor{bad}
			}
			wantMet(t, "none of a's", plainEncounter().with(func(e *encounter) { e.a.Anchors = only(serverKeys) }), impl.MtServer)
			wantMet(t, "none of b's", plainEncounter().with(func(e *encounter) { e.b.Anchors = only(clientKeys) }), impl.MtClient)
		}
	}
}

func TestSidesWithAnchorsAndAsksAboutTheirLimits(t *testing.T) {
	for _, row := range slices.Concat(anchorFieldCases(), anchorBaseCases()) {
		want := int64(impl.MtForm)
		if row.want {
			want = 0
		}
		wantMet(t, "a: "+row.why, plainEncounter().with(func(e *encounter) { e.a.Anchors = append(e.a.Anchors, row.anchor) }), want)
		wantMet(t, "b: "+row.why, plainEncounter().with(func(e *encounter) { e.b.Anchors = append(e.b.Anchors, row.anchor) }), want)
		wantMet(t, "b alone: "+row.why, stranger().with(func(e *encounter) { e.a.Anchors = append(e.a.Anchors, row.anchor) }), want)
	}
	count := 0
	for _, row := range slices.Concat(askNumberCases(), askWantCases(), askListCases()) {
		for _, e := range []encounter{plainEncounter(), stranger()} {
			ofA, ofB := e.with(func(e *encounter) { e.a.Ask = row.ask }), e.with(func(e *encounter) { e.b.Ask = row.ask })
			for _, e := range []encounter{ofA, ofB} {
				_, code := e.meet()
				if (code != impl.MtForm) != row.want {
					t.Error(row.why, code)
				}
				if code == 0 {
					count++
				}
				wantMet(t, row.why, e, code)
			}
		}
	}
	if count < 20 {
		t.Error("few met", count)
	}
}

func TestNoncesAboutTheirLimits(t *testing.T) {
	for _, size := range []int{0, 1, 2, 15, 16, 17, 18, 127, 128, 1000, 30000} {
		want := int64(impl.MtForm)
		if size >= 1 && size <= 16 {
			want = 0
		}
		for _, e := range []encounter{plainEncounter(), stranger()} {
			wantMet(t, "na", e.with(func(e *encounter) { e.na = someText(size) }), want)
			wantMet(t, "nb", e.with(func(e *encounter) { e.nb = someText(size) }), want)
			wantMet(t, "both", e.with(func(e *encounter) { e.na, e.nb = someText(size), someText(size) }), want)
		}
	}
}

func TestHostsThatAreMet(t *testing.T) {
	for host, want := range map[string]int64{
		"b.x.y": 0, "a.w.y": 0, "*.w.y": impl.MtForm, "*.x.y": impl.MtForm, "w.y": impl.MtServer, "x.y": impl.MtServer, "a.b.x.y": impl.MtServer, "a.b.w.y": impl.MtServer,
		"": impl.MtForm, "b.x.y.": impl.MtForm, ".b.x.y": impl.MtForm, "B.x.y": impl.MtForm, "b x.y": impl.MtForm, "-b.x.y": impl.MtForm, "b": impl.MtServer, "b.x.y\x00": impl.MtForm, "u@a.y": impl.MtForm,
		hostLong(100): impl.MtServer, hostLong(101): impl.MtForm,
	} {
		wantMet(t, host, plainEncounter().with(func(e *encounter) { e.host = host }), want)
		wantMet(t, host, stranger().with(func(e *encounter) { e.host = host }), want)
	}
}

func TestActionsOfWhoComes(t *testing.T) {
	for _, action := range []int64{1, 2, 3, 4, 1000, math.MaxInt64} {
		want := int64(impl.MtAllow)
		if action == 3 {
			want = 0
		}
		wantMet(t, "an action", plainEncounter().with(func(e *encounter) { e.action = action }), want)
		wantMet(t, "an action of a stranger", stranger().with(func(e *encounter) { e.action = action }), 0)
		wantMet(t, "any action", plainEncounter().with(func(e *encounter) { e.action, e.b.Rules[0].Action = action, 0 }), 0)
	}
	for _, action := range []int64{0, -1, -3, math.MinInt64} {
		wantMet(t, "no action", plainEncounter().with(func(e *encounter) { e.action, e.b.Rules[0].Action = action, action }), impl.MtForm)
		wantMet(t, "no action of a stranger", stranger().with(func(e *encounter) { e.action = action }), impl.MtForm)
	}
}

// The certificates are good from 100 to 900, that of who comes until 800.
func TestTimesOfMeeting(t *testing.T) {
	late := plainEncounter().with(func(e *encounter) { remade(&e.a, clientKeys, func(c *impl.Cert) { c.To = 800 }) })
	for now, want := range map[int64]int64{
		math.MinInt64: 1, -1: 1, 0: 2, 1: 2, 99: 2, 100: 0, 101: 0, 799: 0, 800: 0, 801: 4, 900: 4, 901: 2, impl.MaxTime - 1: 2, impl.MaxTime: 2, impl.MaxTime + 1: 1, math.MaxInt64: 1,
	} {
		wantMet(t, "now", late.with(func(e *encounter) { e.now = now }), want)
	}
	ever := func(c *impl.Cert) { c.From, c.To = 0, impl.MaxTime }
	for _, now := range []int64{0, impl.MaxTime} {
		wantMet(t, "ever", plainEncounter().with(func(e *encounter) {
			for keys, s := range map[int]*impl.Side{serverKeys: &e.b, clientKeys: &e.a} {
				remade(s, keys, ever)
				ever(&s.Path[0])
				s.Path[0] = signedWith(s.Path[0], keys)
			}
			e.now = now
		}), 0)
	}
}

// What a Side's own Ask says of At and Want does not count; what it says of Uses is asked for, too.
func TestWhatIsPutIntoAsks(t *testing.T) {
	for _, at := range []int64{0, 7, pathFrom, pathAt, pathTo + 1, impl.MaxTime} {
		wantMet(t, "At", plainEncounter().with(func(e *encounter) { e.a.Ask.At, e.b.Ask.At = at, at }), 0)
	}
	for _, want := range gens(impl.GenName{}, hostGen("b.x.y"), hostGen("c.x.y"), hostGen("*.x.y"), mailGen("u@a.y"), addrGen(5, 0), nameGen("n")) {
		wantMet(t, "Want", plainEncounter().with(func(e *encounter) { e.a.Ask.Want, e.b.Ask.Want = want, want }), 0)
	}
	for uses := range int64(256) {
		want := int64(0)
		if uses&^(impl.UsSign|impl.UsServer) != 0 {
			want = impl.MtServer
		}
		wantMet(t, "a's Uses", plainEncounter().with(func(e *encounter) { e.a.Ask.Uses = uses }), want)
		want = 0
		if uses&^(impl.UsSign|impl.UsClient) != 0 {
			want = impl.MtClient
		}
		wantMet(t, "b's Uses", plainEncounter().with(func(e *encounter) { e.b.Ask.Uses = uses }), want)
	}
}

func TestListsSpeakAtTheTimeOfMeeting(t *testing.T) {
	for at := int64(pathAt - 2); at <= pathAt+2; at++ {
		for next := at; next <= pathAt+2; next++ {
			speaks := at <= pathAt && pathAt < next
			list := speaking(midName(serverKeys), goneAt(2, 20, impl.RsHold))
			list.At, list.Next = at, next
			want := int64(0)
			if speaks {
				want = impl.MtServer
			}
			wantMet(t, "a list of a's", plainEncounter().with(func(e *encounter) { e.a.Ask.Lists = []impl.Crl{list} }), want)
			wantMet(t, "a list of a's that b has", plainEncounter().with(func(e *encounter) { e.b.Ask.Lists = []impl.Crl{list} }), 0)
			list.Issuer = midName(clientKeys)
			if speaks {
				want = impl.MtClient
			}
			wantMet(t, "a list of b's", plainEncounter().with(func(e *encounter) { e.b.Ask.Lists = []impl.Crl{list} }), want)
			wantMet(t, "a list of b's that a has", plainEncounter().with(func(e *encounter) { e.a.Ask.Lists = []impl.Crl{list} }), 0)
		}
	}
}

func TestSecretsOfBothSchemes(t *testing.T) {
	for _, s := range rightSecrets() {
		wantMet(t, "b's secret", plainEncounter().with(func(e *encounter) { takeSecret(&e.b, serverKeys, s) }), 0)
		wantMet(t, "a's secret", plainEncounter().with(func(e *encounter) { takeSecret(&e.a, clientKeys, s) }), 0)
		wantMet(t, "both secrets", plainEncounter().with(func(e *encounter) { takeSecret(&e.a, clientKeys, s); takeSecret(&e.b, serverKeys, s) }), 0)
		wantMet(t, "a stranger's secret", stranger().with(func(e *encounter) { takeSecret(&e.a, clientKeys, s); takeSecret(&e.b, serverKeys, s) }), 0)
		if s.Scheme == impl.ScTree {
			empty := s
			empty.Next = 1 << s.Height
			wantMet(t, "b's used up", plainEncounter().with(func(e *encounter) { takeSecret(&e.b, serverKeys, empty) }), impl.MtSign)
			wantMet(t, "a's used up", plainEncounter().with(func(e *encounter) { takeSecret(&e.a, clientKeys, empty) }), impl.MtSign)
			wantMet(t, "b's used up, for a stranger", stranger().with(func(e *encounter) { takeSecret(&e.b, serverKeys, empty) }), impl.MtSign)
			wantMet(t, "a stranger's used up", stranger().with(func(e *encounter) { takeSecret(&e.a, clientKeys, empty) }), 0)
		}
	}
	for _, s := range wrongSecrets() {
		wantMet(t, "b's wrong secret", plainEncounter().with(func(e *encounter) { e.b.Secret = s }), impl.MtForm)
		wantMet(t, "a's wrong secret", plainEncounter().with(func(e *encounter) { e.a.Secret = s }), impl.MtForm)
		wantMet(t, "a stranger's wrong secret", stranger().with(func(e *encounter) { e.a.Secret = s }), impl.MtForm)
		wantMet(t, "a wrong secret without a path", stranger().with(func(e *encounter) { e.a.Path, e.a.Secret = nil, s }), 0)
	}
}

func TestLastCertificatesOfSides(t *testing.T) {
	for _, row := range certCases() {
		if row.want {
			continue
		}
		only := []impl.Cert{row.c}
		for _, secret := range []impl.Secret{{Scheme: impl.ScGroup, X: 5}, {}, secretNo(1)} {
			wantMet(t, "b: "+row.why, plainEncounter().with(func(e *encounter) { e.b.Path, e.b.Secret = only, secret }), impl.MtForm)
			wantMet(t, "a: "+row.why, plainEncounter().with(func(e *encounter) { e.a.Path, e.a.Secret = only, secret }), impl.MtForm)
		}
	}
	// Those ahead of the last one are asked by Check alone.
	wantMet(t, "b's first is none", plainEncounter().with(func(e *encounter) { e.b.Path[0] = impl.Cert{} }), impl.MtServer)
	wantMet(t, "a's first is none", plainEncounter().with(func(e *encounter) { e.a.Path[0] = impl.Cert{} }), impl.MtClient)
	wantMet(t, "a stranger's first is none", stranger().with(func(e *encounter) { e.a.Path[0] = impl.Cert{} }), 0)
}

// Every byte of both nonces, turned in every way, makes another key, and another signature.
func TestOneByteOfANonceTurned(t *testing.T) {
	for _, e := range []encounter{plainEncounter(), stranger()} {
		first, _ := e.meet()
		keys := map[uint64]bool{first.Key: true}
		count := 1
		for at := range len(e.na) + len(e.nb) {
			for bit := 1; bit < 256; bit++ {
				other := e.with(func(e *encounter) {
					if at < len(e.na) {
						e.na[at] ^= byte(bit)
					} else {
						e.nb[at-len(e.na)] ^= byte(bit)
					}
				})
				got, code := other.meet()
				if code != 0 || got.Key == first.Key || impl.VerifyAny(e.b.Path[1].Key, other.slowSaid(), first.SigB) {
					t.Fatal("the same", at, bit, code)
				}
				keys[got.Key] = true
				count++
			}
		}
		if len(keys) != count {
			t.Error("two have one key", len(keys), count)
		}
	}
}

// A byte that goes over from one nonce to the other is turned, too.
func TestNoncesThatSayTheSameTogether(t *testing.T) {
	all := someText(12)
	keys := map[uint64]bool{}
	for at := 1; at < len(all); at++ {
		got := wantMet(t, "parted", plainEncounter().with(func(e *encounter) { e.na, e.nb = all[:at], all[at:] }), 0)
		keys[got.Key] = true
	}
	if len(keys) != len(all)-1 {
		t.Error(len(keys))
	}
	e := plainEncounter().with(func(e *encounter) { e.na, e.nb = []byte{1}, []byte{2} })
	x, _ := e.meet()
	y, _ := e.with(func(e *encounter) { e.na, e.nb = e.nb, e.na }).meet()
	if x.Key == y.Key {
		t.Error("who says which does not count")
	}
}

// Who is met otherwise has another key, also when all nonces are the same.
func TestOthersHaveOtherKeys(t *testing.T) {
	x, _ := plainEncounter().meet()
	y, _ := stranger().meet()
	z, _ := plainEncounter().with(func(e *encounter) { takeSecret(&e.a, clientKeys, secretNo(9)) }).meet()
	w, _ := plainEncounter().with(func(e *encounter) { remade(&e.b, serverKeys, func(c *impl.Cert) { c.Serial = 3 }) }).meet()
	if len(map[uint64]bool{x.Key: true, y.Key: true, z.Key: true, w.Key: true}) != 4 {
		t.Error("the same key", x.Key, y.Key, z.Key, w.Key)
	}
}

func TestAnyEncounter(t *testing.T) {
	r := rand.New(rand.NewSource(2302))
	counts := map[int64]int{}
	late := lateBreakers()
	all := slices.Concat(meetBreakers()[len(meetFormBreakers()):], late, late)
	for range 2000 {
		e := plainEncounter()
		if r.Intn(4) == 0 {
			takeSecret(&e.a, clientKeys, impl.Secret{Scheme: impl.ScTree, X: r.Uint64(), Height: 1, Next: r.Int63n(2)})
		}
		e.action = oneOf[int64](r, 1, 2, 3, 3, 3)
		if r.Intn(3) == 0 {
			e.b.Rules = anyAllowRules(r, 4)
		}
		e.na, e.nb = someText(1+r.Intn(16)), someText(1+r.Intn(17))
		for range oneOf(r, 0, 0, 1, 1, 2) {
			if b := oneOf(r, all...); len(e.a.Path) == 2 && len(e.b.Path) == 2 && len(e.b.Anchors) == 2 && len(e.b.Rules) > 0 {
				e = e.with(b.put)
			}
		}
		if r.Intn(4) == 0 {
			e.b.Anchors = nil
		}
		_, code := e.meet()
		wantMet(t, "any", e, code)
		counts[code]++
	}
	for code := range int64(6) {
		if counts[code] < 40 {
			t.Error("few", counts)
		}
	}
}
