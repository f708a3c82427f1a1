package tests

import (
	"bytes"
	"math/rand"
	"slices"
	"strings"

	"loop.example/g00041/impl"
)

const allReasons = 126

func goneAt(serial int64, at int64, reason int64) impl.Gone {
	return impl.Gone{Serial: serial, At: at, Reason: reason}
}

func goneOf(issuer string, serial int64, at int64, reason int64) impl.Gone {
	return impl.Gone{Issuer: partsOf(issuer), Serial: serial, At: at, Reason: reason}
}

// ownList is a full list, right with entries of its own issuer.
func ownList(number int64, entries ...impl.Gone) impl.Crl {
	return impl.Crl{Issuer: partsOf("An Authority"), Number: number, Base: -1, At: 1000, Next: 2000, Scope: allReasons, Entries: entries}
}

// othersList is a full list for others.
func othersList(number int64, entries ...impl.Gone) impl.Crl {
	l := ownList(number, entries...)
	l.Issuer, l.Indirect = partsOf("who tells"), true
	return l
}

func deltaOf(l impl.Crl, base int64) impl.Crl {
	l.Base = base
	return l
}

// manyGone are so many entries, with Serials from first on.
func manyGone(first int64, count int) []impl.Gone {
	var out []impl.Gone
	for i := range int64(count) {
		out = append(out, goneAt(first+i, 5, 1+i%6))
	}
	return out
}

// longName is a name of as many bytes as may be, beginning with a mark of its own.
func longName(mark byte) impl.Name {
	value := string(mark) + strings.Repeat("x", impl.MaxValue-1)
	return partsOf(slices.Repeat([]string{value}, impl.MaxParts)...)
}

// greatList has as much in it as may be: more than MaxBytes bytes.
func greatList() impl.Crl {
	l := othersList(1 << 40)
	l.Issuer, l.At, l.Next = longName('i'), impl.MaxTime, impl.MaxTime
	for i := range int64(impl.MaxGone) {
		l.Entries = append(l.Entries, impl.Gone{Issuer: longName('e'), Serial: 1<<62 - i, At: impl.MaxTime, Reason: 6})
	}
	return l
}

func changedList(l impl.Crl, change func(l *impl.Crl)) impl.Crl {
	l = copyList(l)
	change(&l)
	return l
}

func sameGone(a impl.Gone, b impl.Gone) bool {
	return slices.Equal(a.Issuer.Parts, b.Issuer.Parts) && a.Serial == b.Serial && a.At == b.At && a.Reason == b.Reason
}

func sameList(a impl.Crl, b impl.Crl) bool {
	return slices.Equal(a.Issuer.Parts, b.Issuer.Parts) && a.Number == b.Number && a.Base == b.Base && a.At == b.At && a.Next == b.Next &&
		a.Scope == b.Scope && a.Indirect == b.Indirect && slices.EqualFunc(a.Entries, b.Entries, sameGone) && bytes.Equal(a.Sig, b.Sig)
}

func noList(l impl.Crl) bool { return sameList(l, impl.Crl{}) }

func copyList(l impl.Crl) impl.Crl {
	l.Issuer, l.Sig, l.Entries = copyName(l.Issuer), bytes.Clone(l.Sig), slices.Clone(l.Entries)
	for i := range l.Entries {
		l.Entries[i].Issuer = copyName(l.Entries[i].Issuer)
	}
	return l
}

func sameReply(a impl.Reply, b impl.Reply) bool {
	return slices.Equal(a.Issuer.Parts, b.Issuer.Parts) && a.Serial == b.Serial && a.Stand == b.Stand && a.At == b.At && a.Next == b.Next &&
		bytes.Equal(a.Nonce, b.Nonce) && bytes.Equal(a.Sig, b.Sig)
}

func noReply(r impl.Reply) bool { return sameReply(r, impl.Reply{}) }

func slowGone(g impl.Gone) []byte {
	return slowStruct(slowName(g.Issuer), slowNumber(g.Serial), slowNumber(g.At), slowNumber(g.Reason))
}

func slowListBody(l impl.Crl) []byte {
	return around(64+32+4, slowName(l.Issuer), slowNumber(l.Number), slowNumber(l.Base), slowNumber(l.At), slowNumber(l.Next),
		slowNumber(l.Scope), slowFlag(l.Indirect), slowList(l.Entries, slowGone))
}

func slowReplyBody(r impl.Reply) []byte {
	stand := slowStruct(slowNumber(r.Stand.State), slowNumber(r.Stand.Reason), slowNumber(r.Stand.At))
	return around(64+32+5, slowName(r.Issuer), slowNumber(r.Serial), stand, slowNumber(r.At), slowNumber(r.Next), slowText(string(r.Nonce)))
}

// signedList and signedReply sign what is there, whether it is right or not.
func signedList(l impl.Crl, s impl.Secret) impl.Crl {
	l.Sig = slowBytes(s, slowListBody(l))
	return l
}

func signedReply(r impl.Reply, s impl.Secret) impl.Reply {
	r.Sig = slowBytes(s, slowReplyBody(r))
	return r
}

func within(n int64, lo int64, hi int64) bool { return lo <= n && n <= hi }

func someone(n impl.Name) bool { return impl.NameOk(n) && len(n.Parts) != 0 }

// slowEntryOk and slowListOk are the document's words for a right list, one by one.
func slowEntryOk(l impl.Crl, g impl.Gone) bool {
	if !within(g.Serial, 1, 1<<62) || !within(g.At, 0, impl.MaxTime) || g.At > l.At {
		return false
	}
	if l.Indirect != someone(g.Issuer) || !l.Indirect && len(g.Issuer.Parts) > 0 {
		return false
	}
	for reason := int64(1); reason <= 6; reason++ {
		if g.Reason == reason {
			return l.Scope/(1<<reason)%2 == 1
		}
	}
	return g.Reason == 7 && l.Base >= 0
}

func slowMeansOne(a impl.Gone, b impl.Gone) bool {
	return a.Serial == b.Serial && impl.SameName(a.Issuer, b.Issuer)
}

func slowListOk(l impl.Crl) bool {
	if !someone(l.Issuer) || !within(l.Number, 0, 1<<40) || l.Base != -1 && !within(l.Base, 0, l.Number-1) {
		return false
	}
	if !within(l.At, 0, impl.MaxTime) || !within(l.Next, 0, impl.MaxTime) || l.At > l.Next {
		return false
	}
	if !within(l.Scope, 2, 126) || l.Scope%2 != 0 || len(l.Entries) > 60 || len(l.Sig) > 500 {
		return false
	}
	for i, g := range l.Entries {
		if !slowEntryOk(l, g) {
			return false
		}
		for _, other := range l.Entries[:i] {
			if slowMeansOne(g, other) {
				return false
			}
		}
	}
	return true
}

// slowFind is the entry of list that means the same certificate as g.
func slowFind(list []impl.Gone, g impl.Gone) (impl.Gone, bool) {
	for _, x := range list {
		if slowMeansOne(x, g) {
			return x, true
		}
	}
	return impl.Gone{}, false
}

func slowFollow(a impl.Crl, b impl.Crl) int64 {
	if !impl.SameName(a.Issuer, b.Issuer) || a.Scope != b.Scope || a.Indirect != b.Indirect {
		return impl.RvOther
	}
	if b.Number <= a.Number {
		return impl.RvOld
	}
	return 0
}

func slowDone(l impl.Crl, base int64, entries []impl.Gone) (impl.Crl, int64) {
	if len(entries) > 60 {
		return impl.Crl{}, impl.RvFull
	}
	l.Base, l.Entries, l.Sig = base, entries, nil
	return copyList(l), 0
}

func slowMakeDelta(old impl.Crl, now impl.Crl) (impl.Crl, int64) {
	if !slowListOk(old) || !slowListOk(now) || old.Base != -1 || now.Base != -1 {
		return impl.Crl{}, impl.RvBad
	}
	if code := slowFollow(old, now); code != 0 {
		return impl.Crl{}, code
	}
	var entries []impl.Gone
	for _, g := range now.Entries {
		if was, has := slowFind(old.Entries, g); !has || was.At != g.At || was.Reason != g.Reason {
			entries = append(entries, g)
		}
	}
	for _, g := range old.Entries {
		if _, has := slowFind(now.Entries, g); !has {
			g.At, g.Reason = now.At, impl.RsOut
			entries = append(entries, g)
		}
	}
	return slowDone(now, old.Number, entries)
}

func slowApplyDelta(full impl.Crl, delta impl.Crl) (impl.Crl, int64) {
	if !slowListOk(full) || !slowListOk(delta) || full.Base != -1 || delta.Base == -1 {
		return impl.Crl{}, impl.RvBad
	}
	if code := slowFollow(full, delta); code != 0 {
		return impl.Crl{}, code
	}
	if delta.Base > full.Number {
		return impl.Crl{}, impl.RvBase
	}
	var entries []impl.Gone
	for _, g := range full.Entries {
		became, has := slowFind(delta.Entries, g)
		if !has {
			became = g
		}
		if became.Reason != impl.RsOut {
			entries = append(entries, became)
		}
	}
	for _, g := range delta.Entries {
		if _, has := slowFind(full.Entries, g); !has && g.Reason != impl.RsOut {
			entries = append(entries, g)
		}
	}
	return slowDone(delta, -1, entries)
}

// slowStanding looks for the entry that counts by time and by reason, from the least on.
func slowStanding(lists []impl.Crl, issuer impl.Name, serial int64, now int64) impl.Stand {
	if !someone(issuer) || len(lists) > 20 {
		return impl.Stand{State: impl.StUnknown}
	}
	var meant []impl.Gone
	reasons := map[int64]int{}
	for _, l := range lists {
		if !slowListOk(l) || l.Base != -1 || now < l.At || now >= l.Next || !l.Indirect && !impl.SameName(l.Issuer, issuer) {
			continue
		}
		for reason := int64(1); reason <= 6; reason++ {
			if l.Scope>>reason&1 == 1 {
				reasons[reason]++
			}
		}
		for _, g := range l.Entries {
			if g.Serial == serial && (!l.Indirect || impl.SameName(g.Issuer, issuer)) {
				meant = append(meant, g)
			}
		}
	}
	slices.SortFunc(meant, func(a impl.Gone, b impl.Gone) int { return int(10*(a.At-b.At) + a.Reason - b.Reason) })
	if len(meant) > 0 {
		return impl.Stand{State: impl.StGone, Reason: meant[0].Reason, At: meant[0].At}
	}
	if len(reasons) == 6 {
		return impl.Stand{State: impl.StGood}
	}
	return impl.Stand{State: impl.StUnknown}
}

// fewIssuers are two issuers, each written in more than one way.
func fewIssuers(r *rand.Rand) impl.Name {
	return copyName(oneOf(r, partsOf("a"), partsOf("A "), partsOf(" a"), partsOf("b", "c"), partsOf("B", " C  ")))
}

// anyList is a right list of a small world, so that two of them often speak of one certificate.
func anyList(r *rand.Rand) impl.Crl {
	l := impl.Crl{
		Issuer: fewIssuers(r), Number: r.Int63n(6), At: 20 + r.Int63n(10), Scope: oneOf(r, allReasons, allReasons, 2*(1+r.Int63n(63))),
		Indirect: r.Intn(2) == 0, Sig: someBytes(r, 20),
	}
	l.Base = oneOf(r, -1, -1, r.Int63n(l.Number+1)-1)
	l.Next = l.At + r.Int63n(15)
	fillList(r, &l)
	return l
}

// fillList gives l other entries that are right.
func fillList(r *rand.Rand, l *impl.Crl) {
	l.Entries = nil
	for range r.Intn(9) {
		g := goneAt(1+r.Int63n(5), oneOf(r, 10, 11, 12, r.Int63n(l.At+1)), 1+r.Int63n(7))
		if l.Indirect {
			g.Issuer = fewIssuers(r)
		}
		if _, has := slowFind(l.Entries, g); !has && slowEntryOk(*l, g) {
			l.Entries = append(l.Entries, g)
		}
	}
}

// bentList is a list that may be right no longer, at one place.
func bentList(r *rand.Rand, l impl.Crl) impl.Crl {
	l = copyList(l)
	numbers := []*int64{&l.Number, &l.Base, &l.At, &l.Next, &l.Scope}
	for i := range l.Entries {
		numbers = append(numbers, &l.Entries[i].Serial, &l.Entries[i].At, &l.Entries[i].Reason)
	}
	switch r.Intn(6) {
	case 0:
		l.Indirect = !l.Indirect
	case 1:
		l.Issuer = oneOf(r, impl.Name{}, onePart(0, "a"), partsOf("a"))
	case 2:
		if len(l.Entries) > 0 {
			g := oneOf(r, l.Entries...)
			g.Reason, g.Issuer = 1+r.Int63n(7), oneOf(r, g.Issuer, impl.Name{}, partsOf(" A  "), partsOf(" "))
			l.Entries = append(l.Entries, g)
		}
	default:
		n := oneOf(r, numbers...)
		*n = oneOf(r, *n+1, *n-1, -1, 0, 1, 7, 8, 1<<40+1, 1<<62+1, impl.MaxTime, impl.MaxTime+1, -1<<63, 1<<63-1)
	}
	return l
}
