package tests

import (
	"bytes"
	"math"
	"math/rand"
	"slices"
	"strconv"
	"testing"

	"loop.example/g00041/impl"
)

var (
	good    = impl.Stand{}
	unknown = impl.Stand{State: impl.StUnknown}
)

func goneSince(at int64, reason int64) impl.Stand {
	return impl.Stand{State: impl.StGone, Reason: reason, At: at}
}

func ofScope(scope int64, entries ...impl.Gone) impl.Crl {
	l := ownList(3, entries...)
	l.Scope = scope
	return l
}

// silentLists have the entry that is asked for and every reason, but do not speak at 1500 of An Authority.
func silentLists() []impl.Crl {
	l := ownList(3, goneAt(1, 7, 2))
	var out []impl.Crl
	for _, change := range []func(l *impl.Crl){
		func(l *impl.Crl) { l.Base = 0 },
		func(l *impl.Crl) { l.Base = 2 },
		func(l *impl.Crl) { l.At = 1501 },
		func(l *impl.Crl) { l.Next = 1500 },
		func(l *impl.Crl) { l.Next = 1000 },
		func(l *impl.Crl) { l.At, l.Next = 1500, 1500 },
		func(l *impl.Crl) { l.Issuer = partsOf("Another") },
		func(l *impl.Crl) { l.Issuer = partsOf("An Authority", "x") },
		func(l *impl.Crl) { l.Issuer = impl.Name{} },
		func(l *impl.Crl) { l.Number = -1 },
		func(l *impl.Crl) { l.Scope = 127 },
		func(l *impl.Crl) { l.Entries = append(l.Entries, l.Entries[0]) },
		func(l *impl.Crl) { l.Entries = append(l.Entries, goneAt(2, 1001, 1)) },
		func(l *impl.Crl) { l.Indirect = true },
		func(l *impl.Crl) { l.Sig = make([]byte, impl.MaxSig+1) },
	} {
		out = append(out, changedList(l, change))
	}
	return out
}

func TestListsThatDoNotSpeak(t *testing.T) {
	who := partsOf("An Authority")
	none, speaking := ownList(3), ownList(3, goneAt(1, 90, 5))
	for i, l := range silentLists() {
		rows := []struct {
			lists []impl.Crl
			want  impl.Stand
		}{{[]impl.Crl{l}, unknown}, {[]impl.Crl{l, none}, good}, {[]impl.Crl{none, l}, good}, {[]impl.Crl{l, speaking, l}, goneSince(90, 5)}, {[]impl.Crl{ofScope(124), l}, unknown}}
		for _, row := range rows {
			if got := impl.Standing(row.lists, who, 1, 1500); got != row.want {
				t.Error(i, "got", got, "want", row.want, l)
			}
		}
	}
}

func TestWhenAListSpeaks(t *testing.T) {
	l, empty := ownList(3, goneAt(1, 7, 2)), changedList(ownList(3), func(l *impl.Crl) { l.Next = 1000 })
	for _, now := range []int64{math.MinInt64, -1, 0, 7, 999, 1000, 1001, 1998, 1999, 2000, 2001, impl.MaxTime, impl.MaxTime + 1, math.MaxInt64} {
		want, other := unknown, unknown
		if now >= 1000 && now <= 1999 {
			want, other = goneSince(7, 2), good
		}
		if got := impl.Standing([]impl.Crl{l}, l.Issuer, 1, now); got != want {
			t.Error(now, "got", got, "want", want)
		}
		if got := impl.Standing([]impl.Crl{l}, l.Issuer, 2, now); got != other {
			t.Error(now, "another Serial: got", got, "want", other)
		}
		if got := impl.Standing([]impl.Crl{empty}, l.Issuer, 1, now); got != unknown {
			t.Error(now, "a list that never speaks: got", got)
		}
	}
	last := changedList(l, func(l *impl.Crl) { l.Next = impl.MaxTime })
	if got := impl.Standing([]impl.Crl{last}, l.Issuer, 1, impl.MaxTime-1); got != goneSince(7, 2) {
		t.Error("the last second", got)
	}
	if got := impl.Standing([]impl.Crl{last}, l.Issuer, 1, impl.MaxTime); got != unknown {
		t.Error("behind it", got)
	}
}

// standCase is a call of Standing at 1500.
type standCase struct {
	why    string
	lists  []impl.Crl
	issuer impl.Name
	serial int64
	want   impl.Stand
}

func standCases() []standCase {
	a, b := partsOf("An Authority"), partsOf("b")
	one := ownList(3, goneAt(1, 7, 2), goneAt(2, 70, 6), goneAt(1<<62, 0, 1))
	other := changedList(ownList(8, goneAt(1, 3, 4)), func(l *impl.Crl) { l.Issuer = b })
	others := othersList(3, goneOf("x", 1, 5, 1), goneOf("An  authority", 1, 9, 1), goneOf("b", 2, 9, 3))
	both := func(x impl.Gone, y impl.Gone) []impl.Crl { return []impl.Crl{ownList(3, x), ownList(3, y)} }
	return []standCase{
		{"on the list", []impl.Crl{one}, a, 1, goneSince(7, 2)}, {"the second of it", []impl.Crl{one}, a, 2, goneSince(70, 6)}, {"the last of it", []impl.Crl{one}, a, 1 << 62, goneSince(0, 1)},
		{"not on it", []impl.Crl{one}, a, 3, good}, {"the Serial 0", []impl.Crl{one}, a, 0, good}, {"a Serial below 0", []impl.Crl{one}, a, -1, good}, {"the greatest number", []impl.Crl{one}, a, math.MaxInt64, good},
		{"an issuer that is written otherwise", []impl.Crl{one}, partsOf(" AN   authority"), 1, goneSince(7, 2)},
		{"another issuer", []impl.Crl{one}, b, 1, unknown}, {"an issuer under it", []impl.Crl{one}, partsOf("An Authority", "b"), 1, unknown},
		{"an issuer of another Attr", []impl.Crl{one}, onePart(2, "An Authority"), 1, unknown},
		{"no issuer", []impl.Crl{one}, impl.Name{}, 1, unknown}, {"no issuer, a list for others", []impl.Crl{others}, impl.Name{}, 1, unknown}, {"an issuer that is no name", []impl.Crl{one, others}, onePart(0, "An Authority"), 1, unknown},
		{"no issuer, a Serial that nobody has", []impl.Crl{one, others}, impl.Name{}, 77, unknown}, {"no name, a Serial that nobody has", []impl.Crl{one, others}, partsOf("a", ""), 77, unknown},
		{"no lists", nil, a, 1, unknown}, {"lists of two", []impl.Crl{one, other}, a, 1, goneSince(7, 2)}, {"lists of two, the other", []impl.Crl{one, other}, b, 1, goneSince(3, 4)},
		{"for others", []impl.Crl{others}, a, 1, goneSince(9, 1)}, {"for others, another one", []impl.Crl{others}, b, 2, goneSince(9, 3)}, {"for others, not this issuer's", []impl.Crl{others}, b, 1, good},
		{"for others, of whom it says nothing", []impl.Crl{others}, partsOf("nobody"), 1, good}, {"who tells", []impl.Crl{others}, others.Issuer, 1, good},
		{"its own and for others", []impl.Crl{one, others}, a, 1, goneSince(7, 2)}, {"its own and for others, at one time", []impl.Crl{ownList(3, goneAt(1, 9, 2)), others}, a, 1, goneSince(9, 1)},
		{"the earlier one", both(goneAt(1, 7, 6), goneAt(1, 8, 1)), a, 1, goneSince(7, 6)}, {"the earlier one behind", both(goneAt(1, 8, 1), goneAt(1, 7, 6)), a, 1, goneSince(7, 6)},
		{"the least reason", both(goneAt(1, 7, 6), goneAt(1, 7, 5)), a, 1, goneSince(7, 5)}, {"the least reason ahead", both(goneAt(1, 7, 1), goneAt(1, 7, 2)), a, 1, goneSince(7, 1)},
		{"two alike", both(goneAt(1, 7, 1), goneAt(1, 7, 1)), a, 1, goneSince(7, 1)}, {"one of another Serial", both(goneAt(1, 7, 1), goneAt(2, 6, 1)), a, 1, goneSince(7, 1)},
		{"one list does not know", []impl.Crl{ownList(3), one}, a, 1, goneSince(7, 2)}, {"an older one has it, the newer has not", []impl.Crl{one, ownList(9)}, a, 1, goneSince(7, 2)},
		{"gone, though reasons lack", []impl.Crl{ofScope(2, goneAt(1, 7, 1))}, a, 1, goneSince(7, 1)}, {"reasons lack", []impl.Crl{ofScope(2, goneAt(1, 7, 1))}, a, 2, unknown},
	}
}

func TestStanding(t *testing.T) {
	for _, row := range standCases() {
		if got := impl.Standing(row.lists, row.issuer, row.serial, 1500); got != row.want {
			t.Errorf("%s: got %v, want %v", row.why, got, row.want)
		}
	}
}

func TestScopesThatHaveAllReasonsTogether(t *testing.T) {
	who := partsOf("An Authority")
	for a := int64(2); a <= 126; a += 2 {
		for b := int64(2); b <= 126; b += 2 {
			want := unknown
			if a|b == 126 {
				want = good
			}
			if got := impl.Standing([]impl.Crl{ofScope(a), ofScope(b)}, who, 1, 1500); got != want {
				t.Error(a, b, "got", got, "want", want)
			}
		}
	}
	var six []impl.Crl
	for reason := range 6 {
		if got := impl.Standing(six, who, 1, 1500); got != unknown {
			t.Error(reason, got)
		}
		six = append(six, ofScope(2<<reason))
	}
	if got := impl.Standing(six, who, 1, 1500); got != good {
		t.Error("six lists", got)
	}
	// A list for others speaks for its reasons too, one of another issuer does not.
	others := changedList(othersList(3), func(l *impl.Crl) { l.Scope = 64 })
	if got := impl.Standing([]impl.Crl{ofScope(62), others}, who, 1, 1500); got != good {
		t.Error("a list for others", got)
	}
	foreign := changedList(ofScope(64), func(l *impl.Crl) { l.Issuer = partsOf("b") })
	if got := impl.Standing([]impl.Crl{ofScope(62), foreign}, who, 1, 1500); got != unknown {
		t.Error("a list of another issuer", got)
	}
}

func TestAsManyListsAsMayBe(t *testing.T) {
	who := partsOf("An Authority")
	lists := slices.Repeat([]impl.Crl{ownList(3)}, impl.MaxLists-1)
	lists = append(lists, ownList(3, goneAt(1, 7, 2)))
	rows := []struct {
		lists  []impl.Crl
		serial int64
		want   impl.Stand
	}{
		{lists, 1, goneSince(7, 2)}, {lists, 2, good}, {append(slices.Clone(lists), ownList(3)), 1, unknown}, {append(slices.Clone(lists), ownList(3)), 2, unknown},
		{append(slices.Clone(lists), impl.Crl{}), 1, unknown}, {make([]impl.Crl, 5000), 1, unknown},
	}
	for i, row := range rows {
		if got := impl.Standing(row.lists, who, row.serial, 1500); got != row.want {
			t.Error(i, "got", got, "want", row.want)
		}
	}
}

func shuffled(r *rand.Rand, lists []impl.Crl) []impl.Crl {
	out := slices.Clone(lists)
	r.Shuffle(len(out), func(i int, j int) { out[i], out[j] = out[j], out[i] })
	return out
}

// inTwo tells the reasons of one list in two; it is left as it is where it has one alone.
func inTwo(r *rand.Rand, l impl.Crl) []impl.Crl {
	scope := l.Scope & (2 * r.Int63n(64))
	if scope == 0 || scope == l.Scope {
		return []impl.Crl{l}
	}
	a, b := copyList(l), copyList(l)
	a.Scope, a.Entries = scope, nil
	b.Scope, b.Entries = l.Scope-scope, nil
	for _, g := range l.Entries {
		if scope>>g.Reason&1 == 1 {
			a.Entries = append(a.Entries, g)
		} else {
			b.Entries = append(b.Entries, g)
		}
	}
	return []impl.Crl{a, b}
}

// forOthers tells a list of its issuer's own as one for others.
func forOthers(l impl.Crl) impl.Crl {
	l = copyList(l)
	if l.Indirect {
		return l
	}
	for i := range l.Entries {
		l.Entries[i].Issuer = copyName(l.Issuer)
	}
	l.Issuer, l.Indirect = partsOf("who tells"), true
	return l
}

func TestWhatListsSayInAnyOrderAndForm(t *testing.T) {
	r := rand.New(rand.NewSource(105))
	states := map[int64]int{}
	for range 12000 {
		var lists, split, others []impl.Crl
		issuer, serial, now := fewIssuers(r), 1+r.Int63n(5), 18+r.Int63n(25)
		for range r.Intn(5) {
			l := anyList(r)
			if r.Intn(8) == 0 {
				l = bentList(r, l)
			}
			lists = append(lists, l)
			// What is no right full list can't be told in other forms.
			if slowListOk(l) && l.Base == -1 && (l.Indirect || impl.SameName(l.Issuer, issuer)) {
				split, others = append(split, inTwo(r, l)...), append(others, forOthers(l))
			} else {
				split, others = append(split, l), append(others, l)
			}
		}
		want := slowStanding(lists, issuer, serial, now)
		states[want.State]++
		for i, told := range [][]impl.Crl{lists, shuffled(r, lists), split, shuffled(r, split), others, shuffled(r, others)} {
			if got := impl.Standing(told, issuer, serial, now); got != want {
				t.Fatal(i, "got", got, "want", want, "of", told, issuer, serial, now)
			}
		}
	}
	if len(states) != 3 || min(states[0], states[1], states[2]) < 300 {
		t.Error("too few were tried", states)
	}
}

func TestEveryOrderOfTheLists(t *testing.T) {
	lists := []impl.Crl{ownList(1, goneAt(1, 7, 3)), ownList(2, goneAt(1, 5, 6)), othersList(1, goneOf("an authority", 1, 5, 4)), ownList(2, goneAt(1, 6, 1)), deltaOf(ownList(2, goneAt(1, 1, 1)), 1)}
	var orders func(done []impl.Crl, rest []impl.Crl)
	orders = func(done []impl.Crl, rest []impl.Crl) {
		if len(rest) == 0 {
			if got := impl.Standing(done, partsOf("An Authority"), 1, 1500); got != goneSince(5, 4) {
				t.Error(got, done)
			}
		}
		for i := range rest {
			orders(append(slices.Clone(done), rest[i]), slices.Concat(rest[:i], rest[i+1:]))
		}
	}
	orders(nil, lists)
}

// answerCase is a call of Answer, and whether there is one.
type answerCase struct {
	why    string
	lists  []impl.Crl
	issuer impl.Name
	serial int64
	nonce  []byte
	now    int64
	life   int64
	ok     bool
}

const maxLife = 10000000

func answerCases() []answerCase {
	lists, a := []impl.Crl{ownList(3, goneAt(1, 7, 2))}, partsOf("An Authority")
	nonce := []byte{1, 2}
	twenty := slices.Repeat([]impl.Crl{ownList(3)}, impl.MaxLists)
	out := []answerCase{
		{"gone", lists, a, 1, nonce, 1500, 10, true}, {"good", lists, a, 2, nonce, 1500, 10, true}, {"unknown", nil, a, 2, nil, 1500, 10, true}, {"unknown then", lists, a, 1, nonce, 2000, 10, true},
		{"another issuer", lists, partsOf("b"), 1, nonce, 1500, 10, true}, {"an issuer of eight parts", lists, longName('i'), 1, nonce, 1500, 10, true},
		{"written otherwise", lists, partsOf("AN  authority "), 1, nonce, 1500, 10, true},
		{"no issuer", lists, impl.Name{}, 1, nonce, 1500, 10, false}, {"an issuer that is no name", lists, onePart(21, "a"), 1, nonce, 1500, 10, false}, {"an issuer of nine parts", lists, partsOf(slices.Repeat([]string{"a"}, 9)...), 1, nonce, 1500, 10, false},
		{"a nonce of 16 bytes", lists, a, 1, make([]byte, 16), 1500, 10, true}, {"a nonce of 17 bytes", lists, a, 1, make([]byte, 17), 1500, 10, false}, {"a long nonce", lists, a, 1, make([]byte, 30000), 1500, 10, false}, {"no nonce", lists, a, 1, nil, 1500, 10, true},
		{"MaxLists lists", twenty, a, 1, nonce, 1500, 10, true}, {"one more", append(slices.Clone(twenty), ownList(3)), a, 1, nonce, 1500, 10, false},
		{"lists that are not right", make([]impl.Crl, 20), a, 1, nonce, 1500, 10, true}, {"one more that is not right", make([]impl.Crl, 21), a, 1, nonce, 1500, 10, false},
	}
	put := func(why string, serial int64, now int64, life int64, ok bool) {
		why += " " + strconv.FormatInt(serial, 10) + " " + strconv.FormatInt(now, 10) + " " + strconv.FormatInt(life, 10)
		out = append(out, answerCase{why, lists, a, serial, nonce, now, life, ok})
	}
	for _, serial := range []int64{1, 2, 1<<62 - 1, 1 << 62} {
		put("serial", serial, 1500, 10, true)
	}
	for _, serial := range []int64{math.MinInt64, -1, 0, 1<<62 + 1, math.MaxInt64} {
		put("serial", serial, 1500, 10, false)
	}
	for _, life := range []int64{1, 2, maxLife - 1, maxLife} {
		put("life", 1, 1500, life, true)
		put("life from the last second on", 1, impl.MaxTime-life, life, true)
		put("life past the last second", 1, impl.MaxTime-life+1, life, false)
	}
	for _, life := range []int64{math.MinInt64, -1, 0, maxLife + 1, impl.MaxTime, math.MaxInt64} {
		put("life", 1, 1500, life, false)
		put("life at 0", 1, 0, life, false)
		put("life at the greatest number", 1, math.MaxInt64, life, false)
		put("life at the least number", 1, math.MinInt64, life, false)
	}
	for _, now := range []int64{0, 1, impl.MaxTime - 11, impl.MaxTime - 10} {
		put("now", 1, now, 10, true)
	}
	for _, now := range []int64{math.MinInt64, -10, -1, impl.MaxTime - 9, impl.MaxTime, impl.MaxTime + 1, math.MaxInt64 - 5, math.MaxInt64} {
		put("now", 1, now, 10, false)
	}
	return out
}

func TestAnswerAndItsLimits(t *testing.T) {
	for _, row := range answerCases() {
		for _, s := range []impl.Secret{{Scheme: impl.ScGroup, X: 5}, {Scheme: impl.ScTree, X: 7, Height: 1}} {
			p, _ := impl.PubOf(s)
			got, next, code := impl.Answer(row.lists, row.issuer, row.serial, row.nonce, row.now, row.life, s)
			if !row.ok {
				if code != impl.CBad || !noReply(got) || next != (impl.Secret{}) {
					t.Errorf("%s: got %v %v %v", row.why, got, next, code)
				}
				continue
			}
			want := impl.Reply{Issuer: row.issuer, Serial: row.serial, Stand: slowStanding(row.lists, row.issuer, row.serial, row.now), At: row.now, Next: row.now + row.life, Nonce: row.nonce}
			goes := s
			if s.Scheme == impl.ScTree {
				goes.Next++
			}
			if code != 0 || next != goes || !sameReply(got, signedReply(want, s)) {
				t.Errorf("%s: got %v %v %v, want %v", row.why, got, next, code, want)
			}
			if check := impl.ReplyCheck(got, p, row.issuer, row.serial, row.nonce, row.now); check != 0 {
				t.Errorf("%s: checked: %v", row.why, check)
			}
		}
	}
}

func TestAnswerTellsTheSecretsCodes(t *testing.T) {
	lists, who := []impl.Crl{ownList(3)}, partsOf("An Authority")
	refuse := func(s impl.Secret, life int64, want int64) {
		t.Helper()
		if got, next, code := impl.Answer(lists, who, 1, nil, 1500, life, s); code != want || !noReply(got) || next != (impl.Secret{}) {
			t.Error(s, "got", got, next, code, "want", want)
		}
	}
	for _, s := range wrongSecrets() {
		refuse(s, 10, impl.TrKey)
		refuse(s, 0, impl.CBad)
	}
	for height := range int64(6) {
		used := impl.Secret{Scheme: impl.ScTree, X: 7, Height: height, Next: 1 << height}
		refuse(used, 10, impl.TrEmpty)
		refuse(used, maxLife+1, impl.CBad)
	}
	s := impl.Secret{Scheme: impl.ScTree, X: 7, Height: 1}
	p, _ := impl.PubOf(s)
	for i := range int64(2) {
		r, next, code := impl.Answer(lists, who, 1+i, nil, 1500, 10, s)
		if code != 0 || next.Next != i+1 || impl.ReplyCheck(r, p, who, 1+i, nil, 1500) != 0 {
			t.Fatal(i, r, next, code)
		}
		s = next
	}
	refuse(s, 10, impl.TrEmpty)
}

func TestAPlainReplyIsSignedAsTold(t *testing.T) {
	s := impl.Secret{Scheme: impl.ScGroup, X: 5}
	l := impl.Crl{Issuer: onePart(3, "I"), Base: -1, At: 1, Next: 500, Scope: 126, Entries: []impl.Gone{goneAt(200, 1, 6)}}
	body := []byte{
		101, 0,
		48, 10, 49, 8, 48, 6, 2, 1, 3, 4, 1, 'I',
		2, 2, 0, 200,
		48, 9, 2, 1, 1, 2, 1, 6, 2, 1, 1,
		2, 1, 100, 2, 2, 0, 128, 4, 2, 9, 8,
	}
	body[1] = byte(len(body) - 2)
	sig, _, _ := impl.SignAny(s, body)
	r, _, code := impl.Answer([]impl.Crl{l}, onePart(3, "I"), 200, []byte{9, 8}, 100, 28, s)
	if code != 0 || !bytes.Equal(r.Sig, sig) {
		t.Error(r, code, "want", sig)
	}
	if !bytes.Equal(slowReplyBody(r), body) {
		t.Error("the slow writer", slowReplyBody(r))
	}
}

func TestAnAnswerSaysWhatTheListsSay(t *testing.T) {
	r := rand.New(rand.NewSource(106))
	s := impl.Secret{Scheme: impl.ScGroup, X: 5}
	p, _ := impl.PubOf(s)
	for range 1500 {
		var lists []impl.Crl
		for range r.Intn(5) {
			lists = append(lists, anyList(r))
		}
		issuer, serial, now, nonce := fewIssuers(r), 1+r.Int63n(5), 18+r.Int63n(25), someBytes(r, 16)
		reply, _, code := impl.Answer(lists, issuer, serial, nonce, now, 1+r.Int63n(9), s)
		if code != 0 || reply.Stand != impl.Standing(lists, issuer, serial, now) || reply.Stand != slowStanding(lists, issuer, serial, now) {
			t.Fatal(reply, code)
		}
		if code := impl.ReplyCheck(reply, p, issuer, serial, nonce, now); code != 0 {
			t.Fatal("checked:", code)
		}
	}
}

// aReply is right for An Authority and 1, from 1500 on, ahead of 1600.
func aReply() impl.Reply {
	return impl.Reply{Issuer: partsOf("An Authority"), Serial: 1, Stand: goneSince(7, 2), At: 1500, Next: 1600, Nonce: []byte{1, 2}}
}

func changedReply(r impl.Reply, change func(r *impl.Reply)) impl.Reply {
	r.Issuer, r.Nonce, r.Sig = copyName(r.Issuer), bytes.Clone(r.Nonce), bytes.Clone(r.Sig)
	change(&r)
	return r
}

func TestReplyCheckTellsItsCodes(t *testing.T) {
	s := impl.Secret{Scheme: impl.ScGroup, X: 5}
	p, _ := impl.PubOf(s)
	a, b := partsOf("An Authority"), partsOf("b")
	reply := signedReply(aReply(), s)
	bare := signedReply(changedReply(aReply(), func(r *impl.Reply) { r.Nonce = nil }), s)
	turned := changedReply(reply, func(r *impl.Reply) { r.Stand = good })
	rows := []struct {
		why    string
		r      impl.Reply
		issuer impl.Name
		serial int64
		nonce  []byte
		now    int64
		want   int64
	}{
		{"right", reply, a, 1, []byte{1, 2}, 1550, 0}, {"written otherwise", reply, partsOf(" an AUTHORITY"), 1, []byte{1, 2}, 1550, 0}, {"no nonce", reply, a, 1, nil, 1550, 0}, {"an empty nonce", reply, a, 1, []byte{}, 1550, 0},
		{"neither has a nonce", bare, a, 1, nil, 1550, 0}, {"the reply has none", bare, a, 1, []byte{1, 2}, 1550, impl.RpNonce}, {"the reply has none, not even 0", bare, a, 1, []byte{0}, 1550, impl.RpNonce},
		{"another issuer", reply, b, 1, []byte{1, 2}, 1550, impl.RpOther}, {"no issuer", reply, impl.Name{}, 1, []byte{1, 2}, 1550, impl.RpOther}, {"an issuer that is no name", reply, onePart(0, "An Authority"), 1, []byte{1, 2}, 1550, impl.RpOther},
		{"an issuer under it", reply, partsOf("An Authority", "x"), 1, []byte{1, 2}, 1550, impl.RpOther}, {"another serial", reply, a, 2, []byte{1, 2}, 1550, impl.RpOther}, {"the serial 0", reply, a, 0, []byte{1, 2}, 1550, impl.RpOther},
		{"another nonce", reply, a, 1, []byte{1, 3}, 1550, impl.RpNonce}, {"a shorter nonce", reply, a, 1, []byte{1}, 1550, impl.RpNonce}, {"a longer nonce", reply, a, 1, []byte{1, 2, 0}, 1550, impl.RpNonce}, {"a nonce that is too long", reply, a, 1, make([]byte, 17), 1550, impl.RpNonce},
		{"at At", reply, a, 1, []byte{1, 2}, 1500, 0}, {"ahead of it", reply, a, 1, []byte{1, 2}, 1499, impl.RpEarly}, {"no time", reply, a, 1, []byte{1, 2}, -1, impl.RpEarly}, {"the least number", reply, a, 1, []byte{1, 2}, math.MinInt64, impl.RpEarly},
		{"ahead of Next", reply, a, 1, []byte{1, 2}, 1599, 0}, {"at Next", reply, a, 1, []byte{1, 2}, 1600, impl.RpLate}, {"behind Next", reply, a, 1, []byte{1, 2}, 1601, impl.RpLate}, {"the greatest number", reply, a, 1, []byte{1, 2}, math.MaxInt64, impl.RpLate},
		{"turned", turned, a, 1, []byte{1, 2}, 1550, impl.RpSig}, {"turned, and another", turned, b, 1, []byte{1, 2}, 1550, impl.RpSig}, {"turned, another nonce", turned, a, 1, []byte{7}, 1550, impl.RpSig}, {"turned, early", turned, a, 1, []byte{1, 2}, 0, impl.RpSig}, {"turned, late", turned, a, 1, []byte{1, 2}, 9999, impl.RpSig},
		{"another, another nonce", reply, b, 1, []byte{7}, 1550, impl.RpOther}, {"another, early", reply, a, 2, nil, 0, impl.RpOther}, {"another, late", reply, a, 2, nil, 9999, impl.RpOther},
		{"another nonce, early", reply, a, 1, []byte{7}, 0, impl.RpNonce}, {"another nonce, late", reply, a, 1, []byte{7}, 9999, impl.RpNonce},
		{"all at once", turned, b, 2, []byte{7}, 0, impl.RpSig}, {"all but the Sig", reply, b, 2, []byte{7}, 0, impl.RpOther}, {"the zero value", impl.Reply{}, impl.Name{}, 0, nil, 0, impl.RpSig},
	}
	for _, row := range rows {
		if got := impl.ReplyCheck(row.r, p, row.issuer, row.serial, row.nonce, row.now); got != row.want {
			t.Errorf("%s: got %v, want %v", row.why, got, row.want)
		}
	}
}

func TestRepliesThatNobodyMakes(t *testing.T) {
	rows := []struct {
		why    string
		change func(r *impl.Reply)
		want   int64
	}{
		{"as it is", func(r *impl.Reply) {}, 0},
		{"no issuer", func(r *impl.Reply) { r.Issuer = impl.Name{} }, impl.RpSig},
		{"an issuer that is no name", func(r *impl.Reply) { r.Issuer = onePart(21, "a") }, impl.RpSig},
		{"an issuer of nine parts", func(r *impl.Reply) { r.Issuer = partsOf(slices.Repeat([]string{"a"}, 9)...) }, impl.RpSig},
		{"an issuer of eight long parts", func(r *impl.Reply) { r.Issuer = longName('q') }, 0},
		{"the Serial 0", func(r *impl.Reply) { r.Serial = 0 }, impl.RpSig},
		{"a Serial below 0", func(r *impl.Reply) { r.Serial = -1 }, impl.RpSig},
		{"the greatest Serial", func(r *impl.Reply) { r.Serial = 1 << 62 }, 0},
		{"one more", func(r *impl.Reply) { r.Serial = 1<<62 + 1 }, impl.RpSig},
		{"a Nonce of 16 bytes", func(r *impl.Reply) { r.Nonce = make([]byte, 16) }, 0},
		{"a Nonce of 17 bytes", func(r *impl.Reply) { r.Nonce = make([]byte, 17) }, impl.RpSig},
		{"a Nonce past MaxBytes", func(r *impl.Reply) { r.Nonce = make([]byte, impl.MaxBytes) }, impl.RpSig},
		{"no life", func(r *impl.Reply) { r.Next = r.At }, impl.RpSig},
		{"Next ahead of At", func(r *impl.Reply) { r.Next = r.At - 1 }, impl.RpSig},
		{"the shortest life", func(r *impl.Reply) { r.Next = r.At + 1 }, 0},
		{"the longest life", func(r *impl.Reply) { r.Next = r.At + maxLife }, 0},
		{"one more of life", func(r *impl.Reply) { r.Next = r.At + maxLife + 1 }, impl.RpSig},
		{"from 0 on", func(r *impl.Reply) { r.At, r.Next, r.Stand = 0, 100, good }, 0},
		{"from 0 on, gone then", func(r *impl.Reply) { r.At, r.Next, r.Stand = 0, 100, goneSince(0, 1) }, 0},
		{"from 0 on, gone behind it", func(r *impl.Reply) { r.At, r.Next, r.Stand = 0, 100, goneSince(1, 1) }, impl.RpSig},
		{"from ahead of 0 on", func(r *impl.Reply) { r.At, r.Next = -1, 100 }, impl.RpSig},
		{"up to the last second", func(r *impl.Reply) { r.At, r.Next = impl.MaxTime-1, impl.MaxTime }, 0},
		{"past it", func(r *impl.Reply) { r.At, r.Next = impl.MaxTime-1, impl.MaxTime+1 }, impl.RpSig},
		{"behind it", func(r *impl.Reply) { r.At, r.Next = impl.MaxTime+1, impl.MaxTime+2 }, impl.RpSig},
		{"a life that wraps", func(r *impl.Reply) { r.At, r.Next = math.MaxInt64, math.MinInt64 }, impl.RpSig},
		{"a life that wraps, from the least on", func(r *impl.Reply) { r.At, r.Next = math.MinInt64, math.MaxInt64 }, impl.RpSig},
		{"good", func(r *impl.Reply) { r.Stand = good }, 0},
		{"unknown", func(r *impl.Reply) { r.Stand = unknown }, 0},
		{"gone for another reason", func(r *impl.Reply) { r.Stand = goneSince(0, 6) }, 0},
		{"gone for the first reason", func(r *impl.Reply) { r.Stand = goneSince(0, 1) }, 0},
		{"gone for no reason", func(r *impl.Reply) { r.Stand = goneSince(0, 0) }, impl.RpSig},
		{"gone for a reason below 0", func(r *impl.Reply) { r.Stand = goneSince(0, -1) }, impl.RpSig},
		{"gone for being off a list", func(r *impl.Reply) { r.Stand = goneSince(0, impl.RsOut) }, impl.RpSig},
		{"gone at its At", func(r *impl.Reply) { r.Stand = goneSince(r.At, 2) }, 0},
		{"gone behind its At, where no list that speaks is", func(r *impl.Reply) { r.Stand = goneSince(r.At+1, 2) }, impl.RpSig},
		{"gone at the last second", func(r *impl.Reply) { r.Stand = goneSince(impl.MaxTime, 2) }, impl.RpSig},
		{"gone past the last second", func(r *impl.Reply) { r.Stand = goneSince(impl.MaxTime+1, 2) }, impl.RpSig},
		{"gone ahead of all times", func(r *impl.Reply) { r.Stand = goneSince(-1, 2) }, impl.RpSig},
		{"good for a reason", func(r *impl.Reply) { r.Stand = impl.Stand{State: impl.StGood, Reason: 1} }, impl.RpSig},
		{"good since a time", func(r *impl.Reply) { r.Stand = impl.Stand{State: impl.StGood, At: 7} }, impl.RpSig},
		{"unknown for a reason", func(r *impl.Reply) { r.Stand = impl.Stand{State: impl.StUnknown, Reason: 1} }, impl.RpSig},
		{"unknown since a time", func(r *impl.Reply) { r.Stand = impl.Stand{State: impl.StUnknown, At: 7} }, impl.RpSig},
		{"a State above all", func(r *impl.Reply) { r.Stand = impl.Stand{State: 3} }, impl.RpSig},
		{"a State above all, with what is gone", func(r *impl.Reply) { r.Stand = impl.Stand{State: 3, Reason: 2, At: 7} }, impl.RpSig},
		{"a State below 0", func(r *impl.Reply) { r.Stand = impl.Stand{State: -1} }, impl.RpSig},
	}
	for _, row := range rows {
		for _, s := range []impl.Secret{{Scheme: impl.ScGroup, X: 5}, {Scheme: impl.ScTree, X: 7, Height: 1, Next: 1}} {
			p, _ := impl.PubOf(s)
			r := signedReply(changedReply(aReply(), row.change), s)
			if got := impl.ReplyCheck(r, p, r.Issuer, r.Serial, r.Nonce, r.At); got != row.want {
				t.Errorf("%s: got %v, want %v", row.why, got, row.want)
			}
		}
	}
}

func TestRepliesOfWhichSomethingIsTurned(t *testing.T) {
	changes := []func(r *impl.Reply){
		func(r *impl.Reply) { r.Issuer.Parts[0].Value = "an authority" },
		func(r *impl.Reply) { r.Issuer.Parts[0].Attr++ },
		func(r *impl.Reply) { r.Serial++ },
		func(r *impl.Reply) { r.Stand.State = impl.StGood },
		func(r *impl.Reply) { r.Stand.Reason++ },
		func(r *impl.Reply) { r.Stand.At++ },
		func(r *impl.Reply) { r.At++ },
		func(r *impl.Reply) { r.Next++ },
		func(r *impl.Reply) { r.Nonce[1]++ },
		func(r *impl.Reply) { r.Nonce = r.Nonce[:1] },
		func(r *impl.Reply) { r.Nonce = append(r.Nonce, 0) },
		func(r *impl.Reply) { r.Nonce = nil },
		func(r *impl.Reply) { r.Sig = nil },
		func(r *impl.Reply) { r.Sig = append(r.Sig, 0) },
		func(r *impl.Reply) { r.Sig = make([]byte, 5000) },
	}
	for _, s := range []impl.Secret{{Scheme: impl.ScGroup, X: 5}, {Scheme: impl.ScTree, X: 7, Height: 2, Next: 3}} {
		p, _ := impl.PubOf(s)
		reply := signedReply(aReply(), s)
		check := func(why string, r impl.Reply, p impl.Pub) {
			t.Helper()
			if got := impl.ReplyCheck(r, p, r.Issuer, r.Serial, r.Nonce, r.At); got != impl.RpSig {
				t.Error(why, "got", got)
			}
		}
		for i, change := range changes {
			check("change "+strconv.Itoa(i), changedReply(reply, change), p)
		}
		for i := range reply.Sig {
			check("byte "+strconv.Itoa(i), changedReply(reply, func(r *impl.Reply) { r.Sig[i] ^= byte(1 << (i % 8)) }), p)
			check("cut at "+strconv.Itoa(i), changedReply(reply, func(r *impl.Reply) { r.Sig = r.Sig[:i] }), p)
		}
		other, _ := impl.PubOf(impl.Secret{Scheme: s.Scheme, X: 6, Height: s.Height})
		for _, p := range []impl.Pub{other, {}, {Scheme: 3, Y: p.Y}, {Scheme: p.Scheme, Y: p.Y, Height: p.Height + 1}} {
			check("another key", reply, p)
		}
		if got := impl.ReplyCheck(reply, p, reply.Issuer, 1, nil, 1500); got != 0 {
			t.Error("as it was", got)
		}
	}
}
