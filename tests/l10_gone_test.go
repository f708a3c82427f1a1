package tests

import (
	"bytes"
	"math"
	"math/rand"
	"slices"
	"strconv"
	"testing"

	"loop.example/g00041/impl"
)

// listCase is a list and whether it is right.
type listCase struct {
	why  string
	l    impl.Crl
	want bool
}

// listNumberCases put each number where the limits of a field are.
func listNumberCases(why string, base impl.Crl, field func(l *impl.Crl) *int64, right []int64, wrong []int64) []listCase {
	var out []listCase
	put := func(n int64, want bool) {
		l := changedList(base, func(l *impl.Crl) { *field(l) = n })
		out = append(out, listCase{why + " " + strconv.FormatInt(n, 10), l, want})
	}
	for _, n := range right {
		put(n, true)
	}
	for _, n := range append(wrong, math.MinInt64, math.MaxInt64) {
		put(n, false)
	}
	return out
}

func listFieldCases() []listCase {
	full := ownList(9, goneAt(3, 1000, impl.RsHold), goneAt(4, 0, impl.RsKey))
	bare := ownList(9)
	delta := deltaOf(full, 4)
	number := func(l *impl.Crl) *int64 { return &l.Number }
	base := func(l *impl.Crl) *int64 { return &l.Base }
	at := func(l *impl.Crl) *int64 { return &l.At }
	next := func(l *impl.Crl) *int64 { return &l.Next }
	scope := func(l *impl.Crl) *int64 { return &l.Scope }
	one := changedList(bare, func(l *impl.Crl) { l.Next = 1000 })
	last := changedList(bare, func(l *impl.Crl) { l.At, l.Next = impl.MaxTime, impl.MaxTime })
	first := changedList(bare, func(l *impl.Crl) { l.At, l.Next = 0, 0 })
	zero := changedList(full, func(l *impl.Crl) { l.Number = 0 })
	return slices.Concat(
		listNumberCases("Number of a full list", full, number, []int64{0, 1, 1<<40 - 1, 1 << 40}, []int64{-2, -1, 1<<40 + 1, 1 << 41}),
		listNumberCases("Number of a delta", delta, number, []int64{5, 6, 1 << 40}, []int64{-1, 0, 3, 4, 1<<40 + 1}),
		listNumberCases("Base", full, base, []int64{-1, 0, 1, 7, 8}, []int64{-3, -2, 9, 10, 1 << 40}),
		listNumberCases("Base of the Number 0", zero, base, []int64{-1}, []int64{-2, 0, 1}),
		listNumberCases("At", bare, at, []int64{0, 1, 999, 1999, 2000}, []int64{-2, -1, 2001, impl.MaxTime, impl.MaxTime + 1}),
		listNumberCases("At, Next being the last", last, at, []int64{0, impl.MaxTime - 1, impl.MaxTime}, []int64{-1, impl.MaxTime + 1}),
		listNumberCases("At, Next being 0", first, at, []int64{0}, []int64{-1, 1}),
		listNumberCases("At of a list with entries", full, at, []int64{1000, 1001, 2000}, []int64{-1, 0, 999, 2001}),
		listNumberCases("Next", bare, next, []int64{1000, 1001, impl.MaxTime - 1, impl.MaxTime}, []int64{-1, 0, 999, impl.MaxTime + 1}),
		listNumberCases("Next that is At", one, next, []int64{1000}, []int64{999}),
		listNumberCases("Scope", bare, scope, []int64{2, 4, 6, 8, 16, 32, 64, 66, 124, 126}, []int64{-126, -2, -1, 0, 1, 3, 65, 125, 127, 128, 130, 254, 255, 256, 1<<32 + 2, math.MinInt64 + 2}),
		listNumberCases("Scope of a delta", deltaOf(bare, 0), scope, []int64{2, 126}, []int64{0, 1, 127, 128, 254}),
	)
}

func listNameCases() []listCase {
	with := func(issuer impl.Name) impl.Crl {
		return changedList(ownList(9), func(l *impl.Crl) { l.Issuer = issuer })
	}
	signed := func(size int) impl.Crl {
		return changedList(ownList(9), func(l *impl.Crl) { l.Sig = make([]byte, size) })
	}
	return []listCase{
		{"the zero value", impl.Crl{}, false},
		{"no entries", ownList(9), true},
		{"as much as may be", greatList(), true},
		{"an Issuer of eight parts", with(longName('a')), true},
		{"no Issuer", with(impl.Name{}), false},
		{"an Issuer of empty Parts", with(impl.Name{Parts: []impl.Part{}}), false},
		{"an Issuer of nine parts", with(partsOf(slices.Repeat([]string{"a"}, 9)...)), false},
		{"an Issuer with the Attr 21", with(onePart(21, "a")), false},
		{"an Issuer with the Attr 0", with(onePart(0, "a")), false},
		{"an Issuer of blanks", with(partsOf("a", "  ")), false},
		{"no Sig", signed(0), true},
		{"a Sig of MaxSig", signed(impl.MaxSig), true},
		{"a Sig of one more", signed(impl.MaxSig + 1), false},
	}
}

func entryCases() []listCase {
	var out []listCase
	for _, bases := range []int64{-1, 0, 8} {
		for _, indirect := range []bool{false, true} {
			l := deltaOf(ownList(9, goneAt(1, 7, impl.RsKey), goneAt(2, 7, impl.RsEnded), goneAt(3, 7, impl.RsHold)), bases)
			l.Indirect = indirect
			if indirect {
				l.Entries[0].Issuer, l.Entries[1].Issuer, l.Entries[2].Issuer = partsOf("x"), partsOf("y"), partsOf("x")
			}
			for i := range l.Entries {
				why := "entry " + strconv.Itoa(i)
				reasons, none := []int64{1, 2, 3, 4, 5, 6}, []int64{-1, 0, 8, 9, 63, 64, 65, 1 << 32}
				if bases == -1 {
					none = append(none, impl.RsOut)
				} else {
					reasons = append(reasons, impl.RsOut)
				}
				out = slices.Concat(out,
					listNumberCases(why+" Serial", l, func(l *impl.Crl) *int64 { return &l.Entries[i].Serial }, []int64{4, 1<<62 - 1, 1 << 62}, []int64{-1, 0, 1<<62 + 1}),
					listNumberCases(why+" At", l, func(l *impl.Crl) *int64 { return &l.Entries[i].At }, []int64{0, 1, 999, 1000}, []int64{-1, 1001, 1500, 2000, impl.MaxTime}),
					listNumberCases(why+" Reason", l, func(l *impl.Crl) *int64 { return &l.Entries[i].Reason }, reasons, none),
				)
				for _, issuer := range []impl.Name{{}, {Parts: []impl.Part{}}, partsOf("z"), longName('z'), onePart(21, "a"), partsOf("a", " "), partsOf(slices.Repeat([]string{"a"}, 9)...)} {
					want := len(issuer.Parts) == 0
					if indirect {
						want = len(issuer.Parts) > 0 && impl.NameOk(issuer)
					}
					out = append(out, listCase{why + " Issuer", changedList(l, func(l *impl.Crl) { l.Entries[i].Issuer = issuer }), want})
				}
			}
		}
	}
	return out
}

// scopeCases are of entries whose reason's bit is in Scope, and of those whose bit is not.
func scopeCases() []listCase {
	var out []listCase
	for reason := int64(1); reason <= 6; reason++ {
		for scope := int64(2); scope <= 126; scope += 2 {
			l := ownList(9, goneAt(1, 7, reason))
			l.Scope = scope
			want := scope>>reason&1 == 1
			out = append(out, listCase{"a reason of Scope", l, want}, listCase{"a reason of a delta's Scope", deltaOf(l, 3), want})
		}
	}
	out1 := deltaOf(ownList(9, goneAt(1, 7, impl.RsOut)), 3)
	out1.Scope = 2
	return append(out, listCase{"RsOut, whatever Scope has", out1, true})
}

func countCases() []listCase {
	others := func(count int) impl.Crl {
		l := othersList(9, manyGone(1, count)...)
		for i := range l.Entries {
			l.Entries[i].Issuer, l.Entries[i].Serial = partsOf("x"+strconv.Itoa(i)), 1
		}
		return l
	}
	return []listCase{
		{"MaxGone entries", ownList(9, manyGone(1, 60)...), true},
		{"one more", ownList(9, manyGone(1, 61)...), false},
		{"many", ownList(9, manyGone(1, 5000)...), false},
		{"MaxGone entries of a delta", deltaOf(ownList(9, manyGone(1, 60)...), 2), true},
		{"one more of a delta", deltaOf(ownList(9, manyGone(1, 61)...), 2), false},
		{"MaxGone entries for others", others(60), true},
		{"one more for others", others(61), false},
	}
}

// twiceCases are of two entries that may mean one certificate.
func twiceCases() []listCase {
	part := func(attr int64, value string) impl.Gone {
		return impl.Gone{Issuer: onePart(attr, value), Serial: 1, At: 7, Reason: 2}
	}
	two := goneOf("x", 1, 7, 2)
	return []listCase{
		{"two alike", ownList(9, goneAt(1, 7, 2), goneAt(1, 7, 2)), false},
		{"two with one Serial", ownList(9, goneAt(1, 7, 2), goneAt(1, 8, 3)), false},
		{"the first and the last", ownList(9, goneAt(5, 7, 2), goneAt(1, 8, 3), goneAt(2, 8, 3), goneAt(5, 8, 3)), false},
		{"the second and the last", ownList(9, goneAt(5, 7, 2), goneAt(1, 8, 3), goneAt(2, 8, 3), goneAt(1, 8, 3)), false},
		{"on and off in one delta", deltaOf(ownList(9, goneAt(1, 7, 2), goneAt(1, 7, impl.RsOut)), 2), false},
		{"two for others alike", othersList(9, two, two), false},
		{"written otherwise", othersList(9, two, goneOf(" X ", 1, 8, 3)), false},
		{"another issuer", othersList(9, two, goneOf("y", 1, 7, 2)), true},
		{"another Serial", othersList(9, two, goneOf("x", 2, 7, 2)), true},
		{"another Attr", othersList(9, part(1, "x"), part(2, "x")), true},
		{"the Attr 1 and 11", othersList(9, part(1, "1"), part(11, "1"), part(1, "11"), part(11, "11")), true},
		{"an issuer and one under it", othersList(9, two, impl.Gone{Issuer: partsOf("x", "y"), Serial: 1, At: 7, Reason: 2}), true},
		{"parts that are joined", othersList(9, impl.Gone{Issuer: partsOf("x", "y"), Serial: 1, At: 7, Reason: 2}, goneOf("xy", 1, 7, 2), goneOf("x y", 1, 7, 2), goneOf("x=y", 1, 7, 2), goneOf("x 1=y", 1, 7, 2), goneOf("x1=y", 1, 7, 2), goneOf("x,1=y", 1, 7, 2), goneOf("x1y", 1, 7, 2)), true},
		{"parts the other way round", othersList(9, impl.Gone{Issuer: partsOf("x", "y"), Serial: 1, At: 7, Reason: 2}, impl.Gone{Issuer: partsOf("y", "x"), Serial: 1, At: 7, Reason: 2}), true},
		{"the list's own issuer", othersList(9, goneOf("who tells", 1, 7, 2)), true},
	}
}

func listCases() []listCase {
	return slices.Concat(listFieldCases(), listNameCases(), entryCases(), scopeCases(), countCases(), twiceCases())
}

func TestGoneConstants(t *testing.T) {
	got := []int64{
		impl.MaxGone, impl.MaxLists, impl.RsKey, impl.RsAuth, impl.RsMoved, impl.RsReplaced, impl.RsEnded, impl.RsHold, impl.RsOut,
		impl.RvBad, impl.RvOther, impl.RvOld, impl.RvBase, impl.RvFull, impl.StGood, impl.StGone, impl.StUnknown,
		impl.RpSig, impl.RpOther, impl.RpNonce, impl.RpEarly, impl.RpLate,
	}
	if !slices.Equal(got, []int64{60, 20, 1, 2, 3, 4, 5, 6, 7, 1, 2, 3, 4, 5, 0, 1, 2, 1, 2, 3, 4, 5}) {
		t.Error(got)
	}
}

func TestCrlOk(t *testing.T) {
	for _, row := range listCases() {
		if got := impl.CrlOk(row.l); got != row.want {
			t.Errorf("%s: got %v, want %v: %v", row.why, got, row.want, row.l)
		}
	}
}

func TestCrlOkOfAnyList(t *testing.T) {
	r := rand.New(rand.NewSource(101))
	right, wrong := 0, 0
	for range 20000 {
		l := anyList(r)
		if !impl.CrlOk(l) {
			t.Fatal("not right", l)
		}
		l = bentList(r, l)
		want := slowListOk(l)
		if got := impl.CrlOk(l); got != want {
			t.Fatal("got", got, "want", want, l)
		}
		if want {
			right++
		} else {
			wrong++
		}
	}
	if right < 1000 || wrong < 1000 {
		t.Error("too few were tried", right, wrong)
	}
}

func TestAPlainListIsSignedAsTold(t *testing.T) {
	l := impl.Crl{Issuer: onePart(3, "I"), Number: 200, Base: -1, At: 1, Next: 128, Scope: 126, Indirect: true}
	l.Entries = []impl.Gone{{Issuer: onePart(1, "x"), Serial: 300, At: 1, Reason: 6}}
	body := []byte{
		100, 58,
		48, 10, 49, 8, 48, 6, 2, 1, 3, 4, 1, 'I',
		2, 2, 0, 200, 2, 1, 255, 2, 1, 1, 2, 2, 0, 128, 2, 1, 126, 1, 1, 255,
		49, 24, 48, 22, 48, 10, 49, 8, 48, 6, 2, 1, 1, 4, 1, 'x', 2, 2, 1, 44, 2, 1, 1, 2, 1, 6,
	}
	body[1] = byte(len(body) - 2)
	s := impl.Secret{Scheme: impl.ScGroup, X: 5}
	sig, _, _ := impl.SignAny(s, body)
	got, next, code := impl.SignCrl(l, s)
	if code != 0 || next != s || !bytes.Equal(got.Sig, sig) {
		t.Error(got, next, code, "want", sig)
	}
	if !bytes.Equal(slowListBody(l), body) {
		t.Error("the slow writer", slowListBody(l))
	}
}

func TestWhatIsSignedIsTheList(t *testing.T) {
	lists := []impl.Crl{ownList(0), ownList(9, manyGone(1, 60)...), deltaOf(ownList(9, goneAt(1, 7, impl.RsOut)), 0), othersList(3, goneOf("x", 1, 7, 2)), greatList()}
	for i, l := range lists {
		for _, s := range rightSecrets() {
			if i > 1 && s.Scheme == impl.ScTree && s.Height > 2 {
				continue
			}
			p, _ := impl.PubOf(s)
			goes := s
			if s.Scheme == impl.ScTree {
				goes.Next++
			}
			want := signedList(l, s)
			got, next, code := impl.SignCrl(l, s)
			if code != 0 || next != goes || !sameList(got, want) || !impl.CrlSigned(got, p) {
				t.Error(i, s, "got", got, next, code)
			}
		}
	}
}

func TestAListThatComesWithASig(t *testing.T) {
	s := impl.Secret{Scheme: impl.ScTree, X: 7, Height: 1, Next: 1}
	for _, size := range []int{1, impl.MaxSig, impl.MaxSig + 1, 5000} {
		l := ownList(9, goneAt(1, 7, 2))
		l.Sig = make([]byte, size)
		got, next, code := impl.SignCrl(l, s)
		if code != 0 || next.Next != 2 || !sameList(got, signedList(l, s)) {
			t.Error(size, got, next, code)
		}
	}
}

func TestAListWhoseBytesAreMany(t *testing.T) {
	l := greatList()
	if size := len(slowListBody(l)); size <= impl.MaxBytes {
		t.Fatal("too few bytes", size)
	}
	s := impl.Secret{Scheme: impl.ScGroup, X: 5}
	p, _ := impl.PubOf(s)
	signed, _, code := impl.SignCrl(l, s)
	if code != 0 || !impl.CrlSigned(signed, p) {
		t.Fatal("not signed", code)
	}
	for _, change := range []func(l *impl.Crl){
		func(l *impl.Crl) { l.Entries[59].At-- },
		func(l *impl.Crl) { l.Entries = l.Entries[:59] },
		func(l *impl.Crl) { l.Entries[40].Issuer.Parts[7].Value = "y" },
	} {
		if other := changedList(signed, change); !impl.CrlOk(other) || impl.CrlSigned(other, p) {
			t.Error("changed, and taken")
		}
	}
	// Around MaxBytes nothing happens.
	for size := impl.MaxBytes - 3; size <= impl.MaxBytes+3; size++ {
		l := listOfSize(size)
		if got := len(slowListBody(l)); got != size || !impl.CrlOk(l) {
			t.Fatal("the size", got, "want", size)
		}
		if got, _, code := impl.SignCrl(l, s); code != 0 || !sameList(got, signedList(l, s)) || !impl.CrlSigned(got, p) {
			t.Error(size, "not signed", code)
		}
	}
}

// listOfSize is a list whose bytes are just so many.
func listOfSize(size int) impl.Crl {
	l := greatList()
	for len(slowListBody(l)) > size {
		l.Entries = l.Entries[:len(l.Entries)-1]
	}
	l.Entries = append(l.Entries, goneOf("z", 1, 7, 2))
	for part := 0; len(slowListBody(l)) < size; {
		parts := l.Entries[len(l.Entries)-1].Issuer.Parts
		if len(parts[part].Value) == impl.MaxValue {
			parts = append(parts, impl.Part{Attr: 1})
			part++
			l.Entries[len(l.Entries)-1].Issuer.Parts = parts
		}
		parts[part].Value += "z"
	}
	return l
}

func TestSignCrlRefuses(t *testing.T) {
	right := impl.Secret{Scheme: impl.ScGroup, X: 5}
	used := impl.Secret{Scheme: impl.ScTree, X: 7, Height: 1, Next: 2}
	check := func(why string, l impl.Crl, s impl.Secret, want int64) {
		t.Helper()
		if got, next, code := impl.SignCrl(l, s); code != want || !noList(got) || next != (impl.Secret{}) {
			t.Errorf("%s: got %v %v %v, want %v", why, got, next, code, want)
		}
	}
	for _, row := range listCases() {
		unsigned := changedList(row.l, func(l *impl.Crl) { l.Sig = nil })
		if row.want || slowListOk(unsigned) {
			continue
		}
		for _, s := range []impl.Secret{right, used, {}} {
			check(row.why, row.l, s, impl.CBad)
		}
	}
	l := ownList(9, goneAt(1, 7, 2))
	for _, s := range wrongSecrets() {
		check("no secret", l, s, impl.TrKey)
	}
	for height := range int64(6) {
		check("used up", l, impl.Secret{Scheme: impl.ScTree, X: 7, Height: height, Next: 1 << height}, impl.TrEmpty)
	}
}

func TestListsAreSignedUntilTheKeyIsUsedUp(t *testing.T) {
	s := impl.Secret{Scheme: impl.ScTree, X: 11, Height: 2}
	p, _ := impl.PubOf(s)
	for number := range int64(4) {
		l, next, code := impl.SignCrl(ownList(number), s)
		if code != 0 || !impl.CrlSigned(l, p) || next.Next != number+1 {
			t.Fatal(number, next, code)
		}
		s = next
	}
	if l, next, code := impl.SignCrl(ownList(9), s); code != impl.TrEmpty || next != (impl.Secret{}) || !noList(l) {
		t.Error("used up:", l, next, code)
	}
}

// otherLists are right lists, each unlike l at one place, with l's Sig.
func otherLists(l impl.Crl) []impl.Crl {
	changes := []func(l *impl.Crl){
		func(l *impl.Crl) { l.Issuer.Parts[0].Value += "x" },
		func(l *impl.Crl) { l.Issuer.Parts[0].Value += " " },
		func(l *impl.Crl) { l.Issuer.Parts[0].Attr++ },
		func(l *impl.Crl) { l.Issuer.Parts = append(l.Issuer.Parts, impl.Part{Attr: 1, Value: "x"}) },
		func(l *impl.Crl) { l.Number++ },
		func(l *impl.Crl) { l.Base = 0 },
		func(l *impl.Crl) { l.At++ },
		func(l *impl.Crl) { l.Next-- },
		func(l *impl.Crl) { l.Next = impl.MaxTime },
		func(l *impl.Crl) { l.Scope -= 1 << impl.RsMoved },
		func(l *impl.Crl) {
			l.Indirect = true
			for i := range l.Entries {
				l.Entries[i].Issuer = partsOf("x")
			}
		},
		func(l *impl.Crl) { l.Entries = nil },
		func(l *impl.Crl) { l.Entries = l.Entries[1:] },
		func(l *impl.Crl) { l.Entries = append(l.Entries, goneAt(99, 7, 2)) },
		func(l *impl.Crl) { l.Entries[0], l.Entries[1] = l.Entries[1], l.Entries[0] },
		func(l *impl.Crl) { l.Entries[1].Serial++ },
		func(l *impl.Crl) { l.Entries[1].At++ },
		func(l *impl.Crl) { l.Entries[1].Reason = impl.RsHold },
	}
	var out []impl.Crl
	for _, change := range changes {
		out = append(out, changedList(l, change))
	}
	return out
}

func TestCrlSigned(t *testing.T) {
	for _, s := range []impl.Secret{{Scheme: impl.ScGroup, X: 5}, {Scheme: impl.ScTree, X: 7, Height: 2, Next: 1}} {
		p, _ := impl.PubOf(s)
		l, _, _ := impl.SignCrl(ownList(9, goneAt(1, 7, 2), goneAt(2, 8, 5)), s)
		if !impl.CrlSigned(l, p) {
			t.Fatal("not signed", l)
		}
		for i, other := range otherLists(l) {
			if !impl.CrlOk(other) || impl.CrlSigned(other, p) {
				t.Error(i, "not right, or taken:", other)
			}
			if again := signedList(other, s); !impl.CrlSigned(again, p) {
				t.Error(i, "signed, but not taken:", again)
			}
		}
		for i := range l.Sig {
			for _, by := range []byte{1, 2, 64, 128, 255} {
				if other := changedList(l, func(l *impl.Crl) { l.Sig[i] ^= by }); impl.CrlSigned(other, p) {
					t.Error("byte", i, "turned by", by)
				}
			}
			if impl.CrlSigned(changedList(l, func(l *impl.Crl) { l.Sig = l.Sig[:i] }), p) {
				t.Error("cut at", i)
			}
		}
		if impl.CrlSigned(changedList(l, func(l *impl.Crl) { l.Sig = append(l.Sig, 0) }), p) {
			t.Error("one byte more")
		}
		x, _ := impl.PubOf(impl.Secret{Scheme: s.Scheme, X: 6, Height: s.Height})
		for _, other := range []impl.Pub{x, {}, {Scheme: 3 - p.Scheme, Y: p.Y, Height: p.Height}, {Scheme: p.Scheme, Y: p.Y + 1, Height: p.Height}, {Scheme: p.Scheme, Y: p.Y, Height: p.Height + 1}} {
			if impl.CrlSigned(l, other) {
				t.Error("another key", other)
			}
		}
	}
}

func TestCrlSignedOfWhatIsNotRight(t *testing.T) {
	s := impl.Secret{Scheme: impl.ScGroup, X: 5}
	p, _ := impl.PubOf(s)
	for _, row := range listCases() {
		l := signedList(row.l, s)
		if got := impl.CrlSigned(l, p); got != slowListOk(l) {
			t.Errorf("%s: got %v: %v", row.why, got, l)
		}
	}
}

// checkDelta holds both calls to the document's words.
func checkDelta(t *testing.T, a impl.Crl, b impl.Crl) (int64, int64) {
	t.Helper()
	want, wantCode := slowMakeDelta(a, b)
	if got, code := impl.MakeDelta(a, b); code != wantCode || !sameList(got, want) {
		t.Fatalf("MakeDelta: got %v %v, want %v %v, of %v and %v", got, code, want, wantCode, a, b)
	}
	applied, appliedCode := slowApplyDelta(a, b)
	if got, code := impl.ApplyDelta(a, b); code != appliedCode || !sameList(got, applied) {
		t.Fatalf("ApplyDelta: got %v %v, want %v %v, of %v and %v", got, code, applied, appliedCode, a, b)
	}
	return wantCode, appliedCode
}

// deltaCase is a pair of lists, and the code of a call with them.
type deltaCase struct {
	why  string
	a, b impl.Crl
	want int64
}

func makeCases() []deltaCase {
	old, now := ownList(4, goneAt(1, 7, 2), goneAt(2, 7, 2)), ownList(5, goneAt(2, 7, 2), goneAt(3, 7, 2))
	bad := func(l impl.Crl) impl.Crl { return changedList(l, func(l *impl.Crl) { l.Scope = 0 }) }
	other := func(l impl.Crl) impl.Crl { return changedList(l, func(l *impl.Crl) { l.Issuer = partsOf("other") }) }
	numbered := func(l impl.Crl, n int64) impl.Crl { return changedList(l, func(l *impl.Crl) { l.Number = n }) }
	scoped := func(l impl.Crl, scope int64) impl.Crl {
		return changedList(l, func(l *impl.Crl) { l.Scope, l.Entries = scope, nil })
	}
	indirect := func(l impl.Crl) impl.Crl {
		return changedList(l, func(l *impl.Crl) { l.Indirect, l.Entries = true, nil })
	}
	spelt := changedList(now, func(l *impl.Crl) { l.Issuer = partsOf("  an  AUTHORITY ") })
	signed := changedList(now, func(l *impl.Crl) { l.Sig = make([]byte, impl.MaxSig) })
	longSigned := changedList(now, func(l *impl.Crl) { l.Sig = make([]byte, impl.MaxSig+1) })
	return []deltaCase{
		{"right ones", old, now, 0}, {"an issuer that is written otherwise", old, spelt, 0}, {"signed", old, signed, 0},
		{"the first is not right", bad(old), now, impl.RvBad}, {"the second is not right", old, bad(now), impl.RvBad}, {"a Sig that is too long", old, longSigned, impl.RvBad},
		{"the first is a delta", deltaOf(old, 3), now, impl.RvBad}, {"the second is a delta", old, deltaOf(now, 4), impl.RvBad}, {"the second is a delta of 0", old, deltaOf(now, 0), impl.RvBad},
		{"the zero values", impl.Crl{}, impl.Crl{}, impl.RvBad},
		{"another issuer", old, other(now), impl.RvOther}, {"another scope", scoped(old, 62), scoped(now, 126), impl.RvOther}, {"a greater scope", scoped(old, 126), scoped(now, 2), impl.RvOther},
		{"the first for others", indirect(old), now, impl.RvOther}, {"the second for others", old, indirect(now), impl.RvOther}, {"both for others", indirect(old), indirect(now), 0},
		{"the same Number", old, numbered(now, 4), impl.RvOld}, {"a lower Number", old, numbered(now, 3), impl.RvOld}, {"itself", old, old, impl.RvOld}, {"the next Number", old, numbered(now, 5), 0},
		{"the greatest Number", numbered(old, 0), numbered(now, 1<<40), 0},
		{"not right, and another", bad(old), other(now), impl.RvBad}, {"a delta, and another", deltaOf(old, 3), other(now), impl.RvBad}, {"a delta, and older", old, deltaOf(numbered(now, 3), 1), impl.RvBad},
		{"another, and older", old, other(numbered(now, 3)), impl.RvOther}, {"another scope, and older", scoped(old, 62), numbered(scoped(now, 126), 1), impl.RvOther},
		{"older, and too many", ownList(4, manyGone(1, 60)...), ownList(4, manyGone(61, 60)...), impl.RvOld}, {"another, and too many", other(ownList(4, manyGone(1, 60)...)), ownList(5, manyGone(61, 60)...), impl.RvOther},
		{"MaxGone changes", ownList(4, manyGone(1, 30)...), ownList(5, manyGone(31, 30)...), 0}, {"one more", ownList(4, manyGone(1, 31)...), ownList(5, manyGone(32, 30)...), impl.RvFull},
		{"all are new", ownList(4), ownList(5, manyGone(1, 60)...), 0}, {"all are out", ownList(4, manyGone(1, 60)...), ownList(5), 0},
		{"one more is out", ownList(4, manyGone(100, 1)...), ownList(5, manyGone(1, 60)...), impl.RvFull}, {"one more is new", ownList(4, manyGone(1, 60)...), ownList(5, manyGone(100, 1)...), impl.RvFull},
		{"many, but they stay", ownList(4, manyGone(1, 60)...), ownList(5, manyGone(1, 60)...), 0}, {"as many changes as can be", ownList(4, manyGone(1, 60)...), ownList(5, manyGone(61, 60)...), impl.RvFull},
	}
}

func TestMakeDeltaTellsItsCodes(t *testing.T) {
	for _, row := range makeCases() {
		if got, code := impl.MakeDelta(row.a, row.b); code != row.want || code != 0 && !noList(got) {
			t.Errorf("%s: got %v %v, want %v", row.why, got, code, row.want)
		}
		checkDelta(t, row.a, row.b)
	}
}

func applyCases() []deltaCase {
	full, delta := ownList(4, goneAt(1, 7, 2), goneAt(2, 7, 2)), deltaOf(ownList(9, goneAt(2, 9, impl.RsOut), goneAt(3, 7, 2)), 4)
	bad := func(l impl.Crl) impl.Crl { return changedList(l, func(l *impl.Crl) { l.Scope = 0 }) }
	other := func(l impl.Crl) impl.Crl { return changedList(l, func(l *impl.Crl) { l.Issuer = partsOf("other") }) }
	numbered := func(l impl.Crl, n int64) impl.Crl { return changedList(l, func(l *impl.Crl) { l.Number = n }) }
	many := func(number int64, base int64, first int64, count int) impl.Crl {
		return deltaOf(ownList(number, manyGone(first, count)...), base)
	}
	swapped := many(9, 4, 61, 1)
	swapped.Entries = append(swapped.Entries, goneAt(60, 9, impl.RsOut))
	spelt := changedList(delta, func(l *impl.Crl) { l.Issuer = partsOf("  an  AUTHORITY ") })
	scoped := changedList(delta, func(l *impl.Crl) { l.Scope, l.Entries = 2, nil })
	indirect := changedList(delta, func(l *impl.Crl) { l.Indirect, l.Entries = true, nil })
	return []deltaCase{
		{"right ones", full, delta, 0}, {"an issuer that is written otherwise", full, spelt, 0},
		{"Base below full's Number", full, deltaOf(delta, 3), 0}, {"Base 0", full, deltaOf(delta, 0), 0}, {"Base above it", full, deltaOf(delta, 5), impl.RvBase}, {"the greatest Base", full, deltaOf(delta, 8), impl.RvBase},
		{"the first is not right", bad(full), delta, impl.RvBad}, {"the second is not right", full, bad(delta), impl.RvBad}, {"the second is full", full, deltaOf(delta, -1), impl.RvBad}, {"two full ones", full, ownList(9), impl.RvBad},
		{"the first is a delta", deltaOf(full, 3), delta, impl.RvBad}, {"the other way round", delta, full, impl.RvBad}, {"the zero values", impl.Crl{}, impl.Crl{}, impl.RvBad},
		{"another issuer", full, other(delta), impl.RvOther}, {"another scope", full, scoped, impl.RvOther}, {"for others", full, indirect, impl.RvOther},
		{"the same Number", numbered(full, 9), delta, impl.RvOld}, {"a lower Number", numbered(full, 10), delta, impl.RvOld}, {"the Number ahead", numbered(full, 8), delta, 0},
		{"not right, and another", bad(full), other(delta), impl.RvBad}, {"another, and older", numbered(full, 9), other(delta), impl.RvOther}, {"another, and above", full, other(deltaOf(delta, 5)), impl.RvOther},
		{"another scope, and above", full, deltaOf(scoped, 5), impl.RvOther},
		{"above, and too many", ownList(4, manyGone(1, 60)...), many(9, 5, 61, 60), impl.RvBase}, {"older, and too many", ownList(9, manyGone(1, 60)...), many(9, 5, 61, 60), impl.RvOld},
		{"MaxGone entries", ownList(4, manyGone(1, 30)...), many(9, 4, 31, 30), 0}, {"one more", ownList(4, manyGone(1, 31)...), many(9, 4, 32, 30), impl.RvFull}, {"one more in the delta", ownList(4, manyGone(1, 30)...), many(9, 4, 31, 31), impl.RvFull},
		{"the last that has room", ownList(4, manyGone(1, 59)...), many(9, 4, 60, 1), 0}, {"no room", ownList(4, manyGone(1, 60)...), many(9, 4, 61, 1), impl.RvFull}, {"one is out, one is new", ownList(4, manyGone(1, 60)...), swapped, 0},
		{"all again", ownList(4, manyGone(1, 60)...), many(9, 4, 1, 60), 0}, {"nothing", ownList(4), many(9, 4, 1, 0), 0},
	}
}

func TestApplyDeltaTellsItsCodes(t *testing.T) {
	for _, row := range applyCases() {
		if got, code := impl.ApplyDelta(row.a, row.b); code != row.want || code != 0 && !noList(got) {
			t.Errorf("%s: got %v %v, want %v", row.why, got, code, row.want)
		}
		checkDelta(t, row.a, row.b)
	}
}

func TestADeltaTellsWhatChanged(t *testing.T) {
	old := ownList(4, goneAt(1, 7, 2), goneAt(2, 7, 2), goneAt(3, 7, 2), goneAt(4, 7, 6), goneAt(5, 7, 2), goneAt(6, 7, 2))
	now := ownList(8, goneAt(9, 70, 3), goneAt(5, 7, 2), goneAt(3, 7, 1), goneAt(2, 8, 2), goneAt(1, 7, 2), goneAt(8, 0, 5))
	now.At, now.Next, now.Issuer, now.Sig = 1500, 1501, partsOf("AN authority"), []byte{1}
	want := changedList(now, func(l *impl.Crl) {
		l.Base, l.Sig = 4, nil
		l.Entries = []impl.Gone{goneAt(9, 70, 3), goneAt(3, 7, 1), goneAt(2, 8, 2), goneAt(8, 0, 5), goneAt(4, 1500, impl.RsOut), goneAt(6, 1500, impl.RsOut)}
	})
	delta, code := impl.MakeDelta(old, now)
	if code != 0 || !sameList(delta, want) || !impl.CrlOk(delta) {
		t.Fatal(delta, code)
	}
	want.Base = -1
	want.Entries = []impl.Gone{goneAt(1, 7, 2), goneAt(2, 8, 2), goneAt(3, 7, 1), goneAt(5, 7, 2), goneAt(9, 70, 3), goneAt(8, 0, 5)}
	full, code := impl.ApplyDelta(old, delta)
	if code != 0 || !sameList(full, want) {
		t.Fatal(full, code)
	}
	if twice, code := impl.ApplyDelta(full, delta); code != impl.RvOld || !noList(twice) {
		t.Error("applied twice", twice, code)
	}
	if back, code := impl.MakeDelta(full, full); code != impl.RvOld || !noList(back) {
		t.Error("of itself", back, code)
	}
}

func TestADeltaForOthers(t *testing.T) {
	old := othersList(4, goneOf("x", 1, 7, 2), goneOf("x", 2, 7, 2), goneOf("y", 1, 7, 2), goneOf("y", 2, 7, 2), goneOf("z", 1, 7, 2))
	now := othersList(5, goneOf(" X", 1, 7, 2), goneOf("X ", 2, 7, 3), goneOf("y", 2, 7, 2), goneOf("Z", 2, 7, 2), goneOf("z", 3, 7, 2))
	delta, code := impl.MakeDelta(old, now)
	want := []impl.Gone{goneOf("X ", 2, 7, 3), goneOf("Z", 2, 7, 2), goneOf("z", 3, 7, 2), goneOf("y", 1, 1000, impl.RsOut), goneOf("z", 1, 1000, impl.RsOut)}
	if code != 0 || !slices.EqualFunc(delta.Entries, want, sameGone) {
		t.Fatal(delta, code)
	}
	full, code := impl.ApplyDelta(old, delta)
	want = []impl.Gone{goneOf("x", 1, 7, 2), goneOf("X ", 2, 7, 3), goneOf("y", 2, 7, 2), goneOf("Z", 2, 7, 2), goneOf("z", 3, 7, 2)}
	if code != 0 || !slices.EqualFunc(full.Entries, want, sameGone) {
		t.Error(full, code)
	}
	// What is out is found however it is written.
	out := deltaOf(othersList(9, goneOf(" X ", 1, 9, impl.RsOut), goneOf("W", 1, 9, impl.RsOut), goneOf("Y", 2, 9, 1)), 4)
	full, code = impl.ApplyDelta(old, out)
	want = []impl.Gone{goneOf("x", 2, 7, 2), goneOf("y", 1, 7, 2), goneOf("Y", 2, 9, 1), goneOf("z", 1, 7, 2)}
	if code != 0 || !slices.EqualFunc(full.Entries, want, sameGone) {
		t.Error(full, code)
	}
}

func TestDeltasOfAnyLists(t *testing.T) {
	r := rand.New(rand.NewSource(102))
	made, applied := map[int64]int{}, map[int64]int{}
	for range 30000 {
		a, b := anyList(r), anyList(r)
		if r.Intn(4) > 0 {
			b.Scope, b.Indirect = a.Scope, a.Indirect
			fillList(r, &b)
		}
		if r.Intn(8) == 0 {
			a, b = bentList(r, a), bentList(r, b)
		}
		of, with := checkDelta(t, a, b)
		made[of]++
		applied[with]++
	}
	for code := range int64(5) {
		if applied[code] < 100 || code < impl.RvBase && made[code] < 100 {
			t.Error("too few were tried", code, made, applied)
		}
	}
}

// unlikeAt tells where two lists do not have the same entries, whatever their order and however issuers are written.
func unlikeAt(a impl.Crl, b impl.Crl) []impl.Gone {
	var out []impl.Gone
	for _, pair := range [][2]impl.Crl{{a, b}, {b, a}} {
		for _, g := range pair[0].Entries {
			if x, has := slowFind(pair[1].Entries, g); !has || x.At != g.At || x.Reason != g.Reason {
				out = append(out, g)
			}
		}
	}
	return out
}

// listsInARow are full lists of one authority, each newer than the one ahead.
func listsInARow(r *rand.Rand, count int) []impl.Crl {
	first := anyList(r)
	first.Base = -1
	var out []impl.Crl
	for i := range int64(count) {
		l := first
		l.Number, l.At, l.Next = first.Number+i*(1+r.Int63n(3)), first.At+i, first.Next+i
		fillList(r, &l)
		out = append(out, l)
	}
	return out
}

func TestWhatChangedGivesWhatTheNewerListHas(t *testing.T) {
	r := rand.New(rand.NewSource(103))
	for range 6000 {
		lists := listsInARow(r, 2)
		old, now := lists[0], lists[1]
		now.Issuer = oneOf(r, now.Issuer, old.Issuer)
		delta, code := impl.MakeDelta(old, now)
		if code != 0 || !impl.CrlOk(delta) || delta.Base != old.Number {
			t.Fatal("no delta", delta, code)
		}
		got, code := impl.ApplyDelta(old, delta)
		if code != 0 || !impl.CrlOk(got) || len(unlikeAt(got, now)) > 0 {
			t.Fatal("got", got, code, "want", now)
		}
		rest := changedList(now, func(l *impl.Crl) { l.Entries, l.Sig = got.Entries, nil })
		if !sameList(got, rest) {
			t.Fatal("around its entries: got", got, "want", now)
		}
		for _, g := range got.Entries {
			was, had := slowFind(old.Entries, g)
			if had && was.At == g.At && was.Reason == g.Reason && !sameGone(was, g) {
				t.Fatal("an issuer does not stay as it was written", g, was)
			}
		}
		serial, issuer := 1+r.Int63n(5), fewIssuers(r)
		if a, b := impl.Standing([]impl.Crl{got}, issuer, serial, now.At), impl.Standing([]impl.Crl{now}, issuer, serial, now.At); a != b {
			t.Fatal("they say unlike things", a, b)
		}
	}
}

func TestDeltasOneBehindTheOther(t *testing.T) {
	r := rand.New(rand.NewSource(104))
	for range 500 {
		lists := listsInARow(r, 6)
		got := lists[0]
		for i, now := range lists[1:] {
			if now.Number <= lists[i].Number {
				break
			}
			delta, code := impl.MakeDelta(lists[i], now)
			if code != 0 {
				t.Fatal(code)
			}
			if got, code = impl.ApplyDelta(got, delta); code != 0 || len(unlikeAt(got, now)) > 0 {
				t.Fatal("got", got, code, "want", now)
			}
		}
	}
}
