package tests

import (
	"math"
	"math/rand"
	"slices"
	"strings"
	"testing"

	"loop.example/g00041/impl"
)

func TestPathConstants(t *testing.T) {
	codes := []int{impl.PcForm, impl.PcName, impl.PcSig, impl.PcTime, impl.PcDistrust, impl.PcGone, impl.PcUnknown, impl.PcLoop, impl.PcCA, impl.PcRoom, impl.PcNames, impl.PcExt, impl.PcUse, impl.PcWant, impl.PcPolicy, impl.PcPin}
	for i, code := range codes {
		if code != i+1 {
			t.Error("the code", i+1, "is", code)
		}
	}
}

func changedAnchor(change func(a *impl.Anchor)) impl.Anchor {
	a := plainAnchor()
	change(&a)
	return a
}

func changedAsk(change func(q *impl.Ask)) impl.Ask {
	q := plainAsk()
	change(&q)
	return q
}

type anchorCase struct {
	why    string
	anchor impl.Anchor
	want   bool
}

func anchorFieldCases() []anchorCase {
	named := func(n impl.Name) impl.Anchor { return changedAnchor(func(a *impl.Anchor) { a.Name = n }) }
	keyed := func(p impl.Pub) impl.Anchor { return changedAnchor(func(a *impl.Anchor) { a.Key = p }) }
	until := func(n int64) impl.Anchor { return changedAnchor(func(a *impl.Anchor) { a.Until = n }) }
	return []anchorCase{
		{"plain", plainAnchor(), true}, {"the zero value", impl.Anchor{}, false},
		{"no name", named(impl.Name{}), false}, {"a name of no parts", named(impl.Name{Parts: []impl.Part{}}), false},
		{"MaxParts parts", named(partsOf(slices.Repeat([]string{"a"}, 8)...)), true}, {"one more part", named(partsOf(slices.Repeat([]string{"a"}, 9)...)), false},
		{"an empty part", named(partsOf("a", "")), false}, {"a part of spaces", named(partsOf("  ")), false}, {"a part that is not printed", named(partsOf("a\n")), false},
		{"a value of MaxValue", named(partsOf(strings.Repeat("v", 60))), true}, {"a longer value", named(partsOf(strings.Repeat("v", 61))), false},
		{"Attr 0", named(impl.Name{Parts: []impl.Part{{Attr: 0, Value: "a"}}}), false}, {"Attr 21", named(impl.Name{Parts: []impl.Part{{Attr: 21, Value: "a"}}}), false},
		{"no key", keyed(impl.Pub{}), false}, {"a key of no scheme", keyed(impl.Pub{Scheme: 3, Y: 4}), false}, {"a key of the group", keyed(impl.Pub{Scheme: 1, Y: 4}), true},
		{"no key of the group", keyed(impl.Pub{Scheme: 1, Y: 0}), false}, {"a key of the group with a Height", keyed(impl.Pub{Scheme: 1, Y: 4, Height: 1}), false},
		{"a tree", keyed(impl.Pub{Scheme: 2, Y: math.MaxUint64, Height: 5}), true}, {"too high a tree", keyed(impl.Pub{Scheme: 2, Y: 7, Height: 6}), false},
		{"Until -1", until(-1), false}, {"Until 0", until(0), true}, {"Until MaxTime", until(impl.MaxTime), true}, {"Until one more", until(impl.MaxTime + 1), false},
		{"Until the least", until(math.MinInt64), false}, {"Until the greatest", until(math.MaxInt64), false},
	}
}

func anchorBaseCases() []anchorCase {
	var out []anchorCase
	for why, field := range map[string]func(a *impl.Anchor) *[]impl.GenName{
		"Permit": func(a *impl.Anchor) *[]impl.GenName { return &a.Permit },
		"Deny":   func(a *impl.Anchor) *[]impl.GenName { return &a.Deny },
	} {
		put := func(list ...impl.GenName) impl.Anchor {
			return changedAnchor(func(a *impl.Anchor) { *field(a) = list })
		}
		out = append(out,
			anchorCase{why + " none", put(), true}, anchorCase{why + " one", put(hostGen("a")), true},
			anchorCase{why + " MaxNames", put(slices.Repeat([]impl.GenName{hostGen("a")}, 8)...), true},
			anchorCase{why + " one more", put(slices.Repeat([]impl.GenName{hostGen("a")}, 9)...), false},
			anchorCase{why + " many", put(slices.Repeat([]impl.GenName{hostGen("a")}, 4000)...), false},
			anchorCase{why + " each kind", put(hostGen("a.b"), mailGen(".a.b"), mailGen("a.b"), mailGen("u@a.b"), addrGen(1<<31, 1), nameGen("a"), impl.GenName{Kind: impl.GnName}), true},
			anchorCase{why + " a wild host", put(hostGen("*.a.b")), false}, anchorCase{why + " the zero value", put(impl.GenName{}), false},
			anchorCase{why + " another kind", put(impl.GenName{Kind: 5}), false}, anchorCase{why + " an address with too few bits", put(addrGen(5, 1)), false},
			anchorCase{why + " the last is none", put(hostGen("a"), hostGen("b"), hostGen("-")), false},
			anchorCase{why + " the first is none", put(hostGen("-"), hostGen("b")), false},
			anchorCase{why + " MaxNames, the last of them none", put(append(slices.Repeat([]impl.GenName{hostGen("a")}, 7), hostGen(""))...), false},
		)
	}
	both := changedAnchor(func(a *impl.Anchor) {
		a.Permit, a.Deny = slices.Repeat([]impl.GenName{hostGen("a")}, 8), slices.Repeat([]impl.GenName{hostGen("a")}, 8)
	})
	return append(out, anchorCase{"both have MaxNames", both, true})
}

func TestAnchorOk(t *testing.T) {
	for _, row := range append(anchorFieldCases(), anchorBaseCases()...) {
		if got := impl.AnchorOk(row.anchor); got != row.want {
			t.Error(row.why, "got", got)
		}
		w := plainTrail(2)
		w.anchor = row.anchor
		code, at := w.check()
		if (code == impl.PcForm) == row.want || at != 0 && code == impl.PcForm {
			t.Error(row.why, "a path says", code, at)
		}
	}
}

type askCase struct {
	why  string
	ask  impl.Ask
	want bool
}

func askNumberCases() []askCase {
	at := func(n int64) impl.Ask { return changedAsk(func(q *impl.Ask) { q.At = n }) }
	uses := func(n int64) impl.Ask { return changedAsk(func(q *impl.Ask) { q.Uses = n }) }
	policies := func(list ...int64) impl.Ask { return changedAsk(func(q *impl.Ask) { q.Policies = list }) }
	known := func(list ...int64) impl.Ask { return changedAsk(func(q *impl.Ask) { q.Known = list }) }
	pins := func(list ...uint64) impl.Ask { return changedAsk(func(q *impl.Ask) { q.Pins = list }) }
	return []askCase{
		{"plain", plainAsk(), true}, {"the zero value", impl.Ask{}, false},
		{"At -1", at(-1), false}, {"At 0", at(0), true}, {"At MaxTime", at(impl.MaxTime), true}, {"At one more", at(impl.MaxTime + 1), false}, {"At the least", at(math.MinInt64), false}, {"At the greatest", at(math.MaxInt64), false},
		{"Uses -1", uses(-1), false}, {"Uses 0", uses(0), true}, {"Uses 1", uses(1), true}, {"Uses 255", uses(255), true}, {"Uses 256", uses(256), false}, {"Uses the least", uses(math.MinInt64), false}, {"Uses a great power", uses(1 << 40), false},
		{"no Policies", policies(), false}, {"an empty list", policies([]int64{}...), false}, {"one", policies(7), true}, {"0 alone", policies(0), true}, {"-1", policies(-1), false}, {"1000", policies(1000), true}, {"1001", policies(1001), false},
		{"20 policies", policies(oneTo(20)...), true}, {"21 policies", policies(oneTo(21)...), false}, {"900 policies", policies(oneTo(900)...), false},
		{"the last is -1", policies(1, 2, -1), false}, {"the first is 1001", policies(1001, 1, 2), false}, {"one twice", policies(4, 4), true},
		{"no Known", known(), true}, {"20 Known", known(oneTo(20)...), true}, {"21 Known", known(oneTo(21)...), false}, {"20 Known alike", known(slices.Repeat([]int64{3}, 20)...), true}, {"21 Known alike", known(slices.Repeat([]int64{3}, 21)...), false},
		{"no Pins", pins(), true}, {"the pins 0 and the greatest", pins(0, math.MaxUint64), true}, {"20 Pins", pins(make([]uint64, 20)...), true}, {"21 Pins", pins(make([]uint64, 21)...), false}, {"many Pins", pins(make([]uint64, 3000)...), false},
		{"all flags", changedAsk(func(q *impl.Ask) { q.Need, q.NoMap, q.NoAny, q.Hard = true, true, true, true }), true},
	}
}

func askWantCases() []askCase {
	want := func(g impl.GenName) impl.Ask { return changedAsk(func(q *impl.Ask) { q.Want = g }) }
	return []askCase{
		{"no Want", want(impl.GenName{}), true}, {"no Want, with an empty name", want(impl.GenName{Name: impl.Name{Parts: []impl.Part{}}}), true},
		{"Kind 0 with a Text", want(impl.GenName{Text: "a"}), false}, {"Kind 0 with an Addr", want(impl.GenName{Addr: 1}), false}, {"Kind 0 with Bits", want(impl.GenName{Bits: 1}), false}, {"Kind 0 with a Name", want(impl.GenName{Name: partsOf("a")}), false},
		{"Kind 0 with an Addr below 0", want(impl.GenName{Addr: -1}), false}, {"Kind 0 with Bits below 0", want(impl.GenName{Bits: -1}), false},
		{"a host", want(hostGen("a.b")), true}, {"a wild host", want(hostGen("*.a.b")), true}, {"no host", want(hostGen("A.b")), false}, {"no host at all", want(hostGen("")), false},
		{"a mail", want(mailGen("u@a.b")), true}, {"no mail", want(mailGen("a.b")), false}, {"an address", want(addrGen(1<<32-1, 0)), true}, {"too great an address", want(addrGen(1<<32, 0)), false}, {"an address with bits", want(addrGen(1<<31, 1)), false},
		{"a name", want(nameGen("a")), true}, {"an empty name", want(impl.GenName{Kind: impl.GnName}), false}, {"Kind 5", want(impl.GenName{Kind: 5, Text: "a"}), false}, {"Kind -1", want(impl.GenName{Kind: -1}), false},
		{"a host with an Addr", want(impl.GenName{Kind: impl.GnHost, Text: "a", Addr: 1}), false},
	}
}

func askListCases() []askCase {
	lists := func(list ...impl.Crl) impl.Ask { return changedAsk(func(q *impl.Ask) { q.Lists = list }) }
	good := speaking(partsOf("The Root"))
	wrong := changedList(good, func(l *impl.Crl) { l.Scope = 0 })
	return []askCase{
		{"no Lists", lists(), true}, {"one", lists(good), true}, {"MaxLists", lists(slices.Repeat([]impl.Crl{good}, 20)...), true}, {"one more", lists(slices.Repeat([]impl.Crl{good}, 21)...), false},
		{"one that is not right", lists(wrong), true}, {"the zero value", lists(impl.Crl{}), true}, {"a delta", lists(deltaOf(good, 0)), true}, {"one that is not right among others", lists(good, wrong, good), true},
		{"MaxLists that are not right", lists(slices.Repeat([]impl.Crl{wrong}, 20)...), true}, {"one more that are not right", lists(slices.Repeat([]impl.Crl{wrong}, 21)...), false},
		{"MaxLists, one of them not right", lists(append(slices.Repeat([]impl.Crl{good}, 19), wrong)...), true}, {"one more, which is not right", lists(append(slices.Repeat([]impl.Crl{good}, 20), wrong)...), false},
	}
}

func TestAskOk(t *testing.T) {
	for _, row := range slices.Concat(askNumberCases(), askWantCases(), askListCases()) {
		if got := impl.AskOk(row.ask); got != row.want {
			t.Error(row.why, "got", got)
		}
		w := plainTrail(1)
		w.ask = row.ask
		if code, at := w.check(); (code == impl.PcForm) == row.want || at != 0 {
			t.Error(row.why, "a path says", code, at)
		}
		if _, _, code := impl.Find(w.path(), []impl.Anchor{w.anchor}, 0, row.ask); (code == impl.BdBad) == row.want {
			t.Error(row.why, "Find says", code)
		}
	}
}

type fitsCase struct {
	why    string
	permit []impl.GenName
	deny   []impl.GenName
	want   bool
}

func gens(list ...impl.GenName) []impl.GenName { return list }

// fitsCases are of a certificate with the names x.y, *.w.y, u@x.y, the address 5, the name n, and the Subject s, t.
func fitsCases() []fitsCase {
	everyName := impl.GenName{Kind: impl.GnName}
	return []fitsCase{
		{"nothing is said", nil, nil, true},
		{"all hosts are within", gens(hostGen("y")), nil, true}, {"one host is outside", gens(hostGen("x.y")), nil, false}, {"each host is within one", gens(hostGen("x.y"), hostGen("w.y")), nil, true}, {"the host of the wild one is not below", gens(hostGen("x.y"), hostGen("q.w.y")), nil, false},
		{"no host is within", gens(hostGen("z")), nil, false}, {"a longer label", gens(hostGen("x")), nil, false},
		{"a host is denied", nil, gens(hostGen("x.y")), false}, {"the wild host is denied", nil, gens(hostGen("w.y")), false}, {"all hosts are denied", nil, gens(hostGen("y")), false}, {"others are denied", nil, gens(hostGen("z"), hostGen("q.x.y")), true}, {"one below the wild host is denied", nil, gens(hostGen("q.w.y")), true},
		{"permitted, and denied", gens(hostGen("y")), gens(hostGen("w.y")), false}, {"permitted, others denied", gens(hostGen("y")), gens(hostGen("z.y")), true}, {"the second denies", nil, gens(hostGen("z"), hostGen("x.y")), false},
		{"the mail is within", gens(mailGen("x.y")), nil, true}, {"it itself", gens(mailGen("u@x.y")), nil, true}, {"the host below", gens(mailGen(".y")), nil, true}, {"not below itself", gens(mailGen(".x.y")), nil, false}, {"another mail", gens(mailGen("v@x.y")), nil, false}, {"another, and its host", gens(mailGen("v@x.y"), mailGen("x.y")), nil, true},
		{"the mail is denied", nil, gens(mailGen("x.y")), false}, {"it itself is denied", nil, gens(mailGen("u@x.y")), false}, {"another mail is denied", nil, gens(mailGen("v@x.y"), mailGen(".x.y")), true},
		{"the address is within", gens(addrGen(4, 31)), nil, true}, {"all addresses", gens(addrGen(0, 0)), nil, true}, {"the address is outside", gens(addrGen(1<<31, 1)), nil, false}, {"beside it", gens(addrGen(4, 32)), nil, false}, {"within one of two", gens(addrGen(1<<31, 1), addrGen(5, 32)), nil, true},
		{"the address is denied", nil, gens(addrGen(5, 32)), false}, {"all are denied", nil, gens(addrGen(0, 0)), false}, {"another is denied", nil, gens(addrGen(6, 31)), true},
		{"names are within", gens(nameGen("N"), nameGen("S", "T")), nil, true}, {"the Subject is outside", gens(nameGen("n")), nil, false}, {"the other name is outside", gens(nameGen("s")), nil, false}, {"all names", gens(everyName), nil, true}, {"the Subject is above the base", gens(nameGen("n"), nameGen("s", "t", "u")), nil, false},
		{"the Subject is denied", nil, gens(nameGen("s", "t")), false}, {"what it is under is denied", nil, gens(nameGen(" S ")), false}, {"what is under it is denied", nil, gens(nameGen("s", "t", "u")), true}, {"the name is denied", nil, gens(nameGen("n")), false}, {"all names are denied", nil, gens(everyName), false}, {"other names are denied", nil, gens(nameGen("t"), nameGen("s", "u")), true},
		{"each kind is permitted", gens(hostGen("y"), mailGen("x.y"), addrGen(0, 0), everyName), nil, true}, {"each but the mail", gens(hostGen("y"), mailGen("z"), addrGen(0, 0), everyName), nil, false},
		{"each kind is permitted, and something else denied", gens(everyName, addrGen(5, 32), mailGen(".y"), hostGen("y")), gens(hostGen("z"), mailGen("z"), addrGen(7, 32), nameGen("z")), true},
		{"permit has no base", gens(hostGen("y"), hostGen("*.x.y")), nil, false}, {"deny has no base", nil, gens(hostGen("z"), hostGen("*.z.z")), false}, {"the zero value is permitted", gens(impl.GenName{}), nil, false}, {"the zero value is denied", nil, gens(impl.GenName{}), false},
		{"no base first", gens(hostGen("-"), hostGen("y")), nil, false}, {"no base of a kind that is not there", nil, gens(impl.GenName{Kind: 5}), false}, {"an address that is no base", nil, gens(addrGen(7, 2)), false},
		{"more than MaxNames", slices.Repeat(gens(hostGen("y")), 30), slices.Repeat(gens(hostGen("z")), 30), true}, {"more than MaxNames, the last denies", nil, append(slices.Repeat(gens(hostGen("z")), 30), hostGen("y")), false},
		{"more than MaxNames, the last permits", append(slices.Repeat(gens(hostGen("z")), 30), hostGen("y")), nil, true},
	}
}

func namedCert() impl.Cert {
	c := plainLink(1, partsOf("i"), partsOf("s", "t"), false)
	c.Key = pubNo(1)
	c.Names = gens(hostGen("x.y"), hostGen("*.w.y"), mailGen("u@x.y"), addrGen(5, 0), nameGen("n"))
	return c
}

func TestFitsNames(t *testing.T) {
	for _, row := range fitsCases() {
		if got := impl.FitsNames(row.permit, row.deny, namedCert()); got != row.want {
			t.Error(row.why, "got", got)
		}
	}
}

func TestFitsNamesOfKindsThatAreNotThere(t *testing.T) {
	bases := gens(hostGen("z"), mailGen("z"), addrGen(7, 32), nameGen("z"))
	for skip, base := range bases {
		c := namedCert()
		c.Names = slices.DeleteFunc(c.Names, func(g impl.GenName) bool { return g.Kind == base.Kind })
		if base.Kind == impl.GnName {
			c.Subject = impl.Name{}
		}
		if !impl.FitsNames(gens(base), gens(base), c) {
			t.Error("it has none of the kind", base)
		}
		for k, other := range bases {
			if k != skip && impl.FitsNames(gens(other), nil, c) {
				t.Error("it has one of the kind", other)
			}
		}
	}
}

func TestFitsNamesOfSubjects(t *testing.T) {
	bare := namedCert()
	bare.Names = nil
	none := namedCert()
	none.Subject, none.Names = impl.Name{}, gens(hostGen("x.y"))
	all := gens(impl.GenName{Kind: impl.GnName})
	if !impl.FitsNames(gens(nameGen("s")), nil, bare) || impl.FitsNames(gens(nameGen("t")), nil, bare) || impl.FitsNames(nil, gens(nameGen("s")), bare) || impl.FitsNames(nil, all, bare) || !impl.FitsNames(gens(hostGen("z")), gens(hostGen("z")), bare) {
		t.Error("a Subject alone")
	}
	if !impl.FitsNames(gens(nameGen("t")), nil, none) || !impl.FitsNames(nil, all, none) || impl.FitsNames(nil, gens(hostGen("x.y")), none) {
		t.Error("no Subject")
	}
}

func TestFitsNamesOfWhatIsNoCertificate(t *testing.T) {
	for _, row := range certCases() {
		if got := impl.FitsNames(nil, nil, row.c); got != row.want {
			t.Error(row.why, "got", got)
		}
	}
	if impl.FitsNames(nil, nil, impl.Cert{}) {
		t.Error("the zero value")
	}
}

func TestFitsNamesOfAny(t *testing.T) {
	r := rand.New(rand.NewSource(131))
	seen := map[bool]int{}
	for range 4000 {
		c := anyCert(r)
		if r.Intn(20) == 0 {
			c.Serial = 0
		}
		permit, deny := someNames(r, 4, anyFitBases()...), someNames(r, 2, anyFitBases()...)
		want := slowFits(permit, deny, c)
		if got := impl.FitsNames(permit, deny, c); got != want {
			t.Fatal("got", got, permit, deny, c.Names, c.Subject)
		}
		seen[want]++
	}
	if seen[true] < 300 || seen[false] < 300 {
		t.Error("too few of one", seen)
	}
}

func anyFitBases() []impl.GenName {
	return gens(hostGen("a"), hostGen("y"), hostGen("q.x.y"), hostGen("z"), mailGen("x"), mailGen("u1@x"), mailGen(".z"), addrGen(0, 1), addrGen(1<<31, 1), addrGen(0, 0), addrGen(0, 32), nameGen("n N"), nameGen("s"), nameGen("q"), impl.GenName{Kind: impl.GnName}, hostGen("y"), addrGen(0, 0), impl.GenName{Kind: impl.GnName})
}
