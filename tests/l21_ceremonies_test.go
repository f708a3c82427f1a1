package tests

import (
	"bytes"
	"math"
	"math/rand"
	"slices"
	"strings"
	"testing"

	"loop.example/g00041/impl"
)

func TestCeremonyConstants(t *testing.T) {
	got := []int64{
		impl.MaxCeOps, impl.MaxWaits, impl.CePropose, impl.CeAgree, impl.CeTakeBack, impl.CeOut, impl.CeBack, impl.CeTick,
		impl.CeOK, impl.CeNo,
	}
	if !slices.Equal(got, []int64{60, 40, 1, 2, 3, 4, 5, 6, 0, 1}) {
		t.Error(got)
	}
}

// signing is a run by which a proposal is signed by the first who are enough.
func signing(d dealing) []ceDeed {
	out := yes(proposal(1, "what"))
	for i := range d.more {
		out = append(out, yes(consent(int64(i)+1, 0))...)
	}
	return append(out, yes(consent(int64(len(d.more))+1, 0))...)
}

func TestSecretsOfCeremonies(t *testing.T) {
	for _, secret := range []int64{1, 2, 5, impl.Q - 2, impl.Q - 1} {
		for _, d := range []dealing{{secret, nil, 1}, {secret, []int64{0}, 2}, {secret, []int64{impl.Q - secret}, 3}} {
			got := wantCeremony(t, "a secret", d, signing(d), theFirst(len(d.more)+1))
			if got.Key != bigPow(impl.G, secret, impl.P) || !impl.Verify(got.Key, []byte("what"), got.Sigs[0].Sig) {
				t.Error(secret, got)
			}
		}
	}
	for _, secret := range append(farNumbers(), 0, impl.Q, impl.Q+1, impl.P) {
		wantNoCeremony(t, "no secret", dealing{secret, nil, 1}, nil)
		wantNoCeremony(t, "no secret", dealing{secret, []int64{1}, 2}, []impl.CeOp{waiting(1)})
	}
}

// theFirst tells a signature of the proposal 0 by the custodians 1 .. count.
func theFirst(count int) []int64 { return append([]int64{0}, oneTo(int64(count))...) }

func TestNumbersThatAreMore(t *testing.T) {
	for count := range 20 {
		d := dealing{secret: 9, more: manyNumbers(count, impl.Q-1), n: int64(count) + 1}
		for ; d.n <= 20; d.n++ {
			wantCeremony(t, "more", d, signing(d), theFirst(count+1))
		}
		wantNoCeremony(t, "21 custodians", d, nil)
		for d.n = -1; d.n <= int64(count); d.n++ {
			wantNoCeremony(t, "fewer custodians than are enough", d, nil)
		}
		for _, n := range farNumbers() {
			wantNoCeremony(t, "no number of custodians", dealing{9, d.more, n}, nil)
		}
	}
	for _, count := range []int{20, 21, 100, 100000} {
		for _, n := range []int64{1, 19, 20, 21, 22, int64(count), int64(count) + 1} {
			wantNoCeremony(t, "more than can be dealt", dealing{9, manyNumbers(count, 1), n}, nil)
		}
	}
	for _, wrong := range append(farNumbers(), impl.Q, impl.Q+1) {
		for at := range 3 {
			more := []int64{0, 1, impl.Q - 1}
			more[at] = wrong
			wantNoCeremony(t, "a wrong number", dealing{9, more, 5}, nil)
		}
	}
}

func TestOpsOfCeremoniesThatMayBe(t *testing.T) {
	d := dealt(2, 3)
	got := wantCeremony(t, "nothing done", d, nil)
	if got.Minutes != 0 || got.Key != 1024 {
		t.Error("nothing done", got)
	}
	for _, count := range []int{1, 59, 60} {
		if got := wantCeremony(t, "ops", d, slices.Repeat(yes(waiting(1000)), count)); len(got.Codes) != count {
			t.Error(count, got)
		}
		wantCeremony(t, "proposals", d, slices.Repeat(yes(proposal(3, "x")), count))
		wantCeremony(t, "ops of no kind", d, slices.Repeat(no(impl.CeOp{}), count))
	}
	wantCeremony(t, "the last op signs", d, slices.Concat(slices.Repeat(yes(waiting(0)), 57), yes(proposal(1, ""), consent(3, 0), consent(2, 0))), []int64{0, 2, 3})
	wantNoCeremony(t, "one more", d, slices.Repeat([]impl.CeOp{waiting(1)}, 61))
	wantNoCeremony(t, "one more, of no kind", d, make([]impl.CeOp, 61))
	wantNoCeremony(t, "many", d, make([]impl.CeOp, 100000))
}

// eachDone is a run in which an op of each kind is done, and none is signed; the ops of others are put behind it.
func eachDone() []ceDeed {
	return yes(proposal(1, "a"), consent(1, 0), consent(2, 0), regret(2, 0), outGoes(3), outGoes(4), backComes(4), waiting(7))
}

func behindAll(deeds ...[]ceDeed) []ceDeed { return append(eachDone(), slices.Concat(deeds...)...) }

func TestEachKindDoneAndNot(t *testing.T) {
	d := dealt(3, 5)
	wantCeremony(t, "each kind", d, eachDone())
	for _, kind := range append(farNumbers(), 0, 7, 8, -3) {
		for who := range int64(6) {
			wantCeremony(t, "no kind", d, behindAll(no(impl.CeOp{Kind: kind, Who: who, What: []byte("x"), N: 0})))
		}
	}
	for _, who := range append(farNumbers(), 0, 6, 7) {
		wantCeremony(t, "nobody", d, behindAll(no(proposal(who, "x"), consent(who, 0), regret(who, 0), outGoes(who), backComes(who))))
	}
	for _, who := range append(farNumbers(), 1, 2, 5, 6) {
		tick := waiting(3)
		tick.Who = who
		wantCeremony(t, "a clock that somebody moves", d, behindAll(no(tick)))
	}
	for _, n := range append(farNumbers(), 1, 2, 60) {
		wantCeremony(t, "no proposal", d, behindAll(no(consent(5, n), regret(1, n))))
		wantCeremony(t, "no proposal yet", d, slices.Concat(no(consent(5, n), consent(5, 0), regret(1, n)), eachDone()))
	}
	for _, n := range append(farNumbers(), 0, 1, 1001) {
		op := []impl.CeOp{proposal(2, "b"), outGoes(2), backComes(2)}
		for i := range op {
			op[i].N = n
		}
		wantCeremony(t, "N that is not asked for", d, behindAll(yes(op...), yes(consent(2, 1))))
	}
}

func TestWhatIsProposed(t *testing.T) {
	d := dealt(1, 2)
	for _, size := range []int{0, 1, 99, 100} {
		what := string(someText(size))
		got := wantCeremony(t, "what", d, yes(proposal(2, what), consent(1, 0)), []int64{0, 1})
		if !impl.Verify(got.Key, []byte(what), got.Sigs[0].Sig) || impl.Verify(got.Key, []byte(what+"x"), got.Sigs[0].Sig) {
			t.Error(size, got)
		}
	}
	for _, size := range []int{101, 102, 1000} {
		wantCeremony(t, "too long", d, append(no(proposal(2, string(someText(size)))), no(consent(1, 0))...))
		long := slices.Concat(yes(proposal(1, "a")), no(proposal(2, string(someText(size)))), yes(proposal(1, "b"), consent(1, 1)))
		wantCeremony(t, "the next number is not used up", d, long, []int64{1, 1})
	}
	wantCeremony(t, "proposed by who is out", d, yes(outGoes(1), proposal(1, "a"), consent(2, 0)), []int64{0, 2})
	for n := range int64(20) {
		var deeds []ceDeed
		for range 20 {
			deeds = append(deeds, yes(proposal(1, "same"))...)
		}
		wantCeremony(t, "which one", d, append(deeds, yes(consent(2, n))...), []int64{n, 2})
	}
}

func TestHowLongProposalsWait(t *testing.T) {
	d := dealt(2, 4)
	for _, ahead := range []int64{0, 1, 1000} {
		begin := yes(waiting(ahead), proposal(1, "a"), consent(1, 0))
		for _, age := range []int64{0, 1, 38, 39} {
			wantCeremony(t, "young enough", d, slices.Concat(begin, yes(waiting(age), consent(3, 0))), []int64{0, 1, 3})
			wantCeremony(t, "young enough by two ticks", d, slices.Concat(begin, yes(waiting(age/2), waiting(age-age/2), consent(3, 0))), []int64{0, 1, 3})
		}
		for _, age := range []int64{40, 41, 80, 1000} {
			old := slices.Concat(begin, yes(waiting(age)))
			wantCeremony(t, "too old", d, slices.Concat(old, no(consent(3, 0), consent(3, 0), consent(4, 0), regret(1, 0))))
			wantCeremony(t, "too old by two ticks", d, slices.Concat(begin, yes(waiting(age-1), waiting(1)), no(consent(3, 0), regret(1, 0))))
			// It stays open until somebody who might agree does so.
			wantCeremony(t, "old, but open", d, slices.Concat(old, yes(regret(1, 0)), no(regret(1, 0), consent(1, 0), consent(3, 0))))
			wantCeremony(t, "closed by nobody", d, slices.Concat(old, no(consent(5, 0), consent(0, 0), consent(1, 0)), yes(regret(1, 0))))
			wantCeremony(t, "closed by nobody who is out", d, slices.Concat(old, yes(outGoes(2)), no(consent(2, 0)), yes(regret(1, 0))))
			wantCeremony(t, "another that is young", d, slices.Concat(old, yes(proposal(2, "a")), no(consent(3, 0)), yes(consent(3, 1), waiting(39), consent(2, 1))), []int64{1, 2, 3})
		}
	}
	wantCeremony(t, "the age is of the proposal, not of consents", d, slices.Concat(yes(proposal(1, "a"), waiting(39), consent(1, 0), waiting(1)), no(consent(2, 0))))
}

func TestClocksOfCeremonies(t *testing.T) {
	d := dealt(1, 1)
	for _, n := range []int64{0, 1, 39, 40, 999, 1000} {
		deeds := yes(proposal(1, "a"), waiting(n))
		if n < 40 {
			wantCeremony(t, "a tick", d, append(deeds, yes(consent(1, 0))...), []int64{0, 1})
		} else {
			wantCeremony(t, "a tick", d, append(deeds, no(consent(1, 0))...))
		}
	}
	for _, n := range append(farNumbers(), 1001, 1002) {
		wantCeremony(t, "no tick", d, slices.Concat(yes(proposal(1, "a")), no(waiting(n)), yes(consent(1, 0))), []int64{0, 1})
	}
}

func TestConsentsTakenBack(t *testing.T) {
	d := dealt(2, 4)
	begin := yes(proposal(1, "a"), proposal(2, "b"), consent(1, 0))
	with := func(deeds ...[]ceDeed) []ceDeed { return slices.Concat(begin, slices.Concat(deeds...)) }
	wantCeremony(t, "twice", d, with(no(consent(1, 0), consent(1, 0))))
	wantCeremony(t, "taken back", d, with(yes(regret(1, 0), consent(2, 0))))
	wantCeremony(t, "taken back twice", d, with(yes(regret(1, 0)), no(regret(1, 0))))
	wantCeremony(t, "taken back by another", d, with(no(regret(2, 0), regret(3, 0)), yes(consent(2, 0))), []int64{0, 1, 2})
	wantCeremony(t, "of another proposal", d, with(no(regret(1, 1)), yes(consent(2, 0))), []int64{0, 1, 2})
	wantCeremony(t, "given again", d, with(yes(regret(1, 0), consent(1, 0)), no(consent(1, 0)), yes(consent(4, 0))), []int64{0, 1, 4})
	wantCeremony(t, "given again, last", d, with(yes(regret(1, 0), consent(4, 0), consent(1, 0))), []int64{0, 1, 4})
	wantCeremony(t, "behind the signature", d, with(yes(consent(2, 0)), no(regret(1, 0), regret(2, 0), consent(1, 0), consent(3, 0))), []int64{0, 1, 2})
	wantCeremony(t, "of both proposals", d, with(yes(consent(1, 1), regret(1, 0), consent(2, 1))), []int64{1, 1, 2})
}

func TestGoingOutAndComingBack(t *testing.T) {
	d := dealt(2, 4)
	wantCeremony(t, "twice", d, slices.Concat(yes(outGoes(1)), no(outGoes(1)), yes(backComes(1)), no(backComes(1)), yes(outGoes(1))))
	wantCeremony(t, "in already", d, no(backComes(1), backComes(4)))
	wantCeremony(t, "out, not agreeing", d, slices.Concat(yes(proposal(1, "a"), outGoes(1)), no(consent(1, 0)), yes(consent(2, 0), consent(3, 0))), []int64{0, 2, 3})
	wantCeremony(t, "out alone", d, slices.Concat(yes(proposal(1, "a"), outGoes(1), consent(4, 0)), no(consent(1, 0)), yes(backComes(1), consent(1, 0))), []int64{0, 1, 4})
	begin := yes(proposal(1, "a"), proposal(1, "b"), proposal(1, "c"), consent(1, 0), consent(3, 0), consent(1, 1), consent(1, 2), outGoes(1))
	got := wantCeremony(t, "consents to open ones alone", d, slices.Concat(begin, yes(consent(2, 1), consent(2, 2)), no(regret(1, 1), regret(1, 0))), []int64{0, 1, 3})
	if !impl.Verify(got.Key, []byte("a"), got.Sigs[0].Sig) {
		t.Error("what was signed ahead", got)
	}
	wantCeremony(t, "given again", d, slices.Concat(begin, yes(backComes(1)), no(regret(1, 1)), yes(consent(1, 1), consent(4, 1), consent(2, 2))), []int64{0, 1, 3}, []int64{1, 1, 4})
	wantCeremony(t, "another's consents stay", d, slices.Concat(begin, yes(consent(2, 1), outGoes(3), outGoes(4), consent(2, 2)), no(consent(4, 1)), yes(backComes(1), consent(1, 2), backComes(3), consent(3, 1))), []int64{0, 1, 3}, []int64{2, 1, 2}, []int64{1, 2, 3})
	wantCeremony(t, "of one that is too old, but open", d, slices.Concat(yes(proposal(1, "a"), consent(1, 0), waiting(40), outGoes(1)), no(regret(1, 0))))
}

func TestJustEnough(t *testing.T) {
	for n := int64(1); n <= 6; n++ {
		for enough := 1; enough <= int(n); enough++ {
			d := dealt(enough, n)
			deeds, who := yes(proposal(1, "a")), []int64(nil)
			for i := range enough {
				by := n - int64(i)
				deeds, who = append(deeds, yes(consent(by, 0))...), append(who, by)
			}
			wantCeremony(t, "one less", d, deeds[:enough])
			slices.Sort(who)
			for by := int64(0); by <= n; by++ {
				deeds = append(deeds, no(consent(by, 0), regret(by, 0))...)
			}
			got := wantCeremony(t, "just enough", d, deeds, append([]int64{0}, who...))
			if len(got.Sigs) != 1 || !impl.Verify(got.Key, []byte("a"), got.Sigs[0].Sig) {
				t.Error(n, enough, got)
			}
		}
	}
	d := dealt(3, 5)
	for _, order := range [][]int64{{1, 3, 5}, {1, 5, 3}, {3, 1, 5}, {3, 5, 1}, {5, 1, 3}, {5, 3, 1}} {
		got := wantCeremony(t, "in any order", d, yes(proposal(2, "a"), consent(order[0], 0), consent(order[1], 0), consent(order[2], 0)), []int64{0, 1, 3, 5})
		rising := wantCeremony(t, "rising", d, yes(proposal(2, "a"), consent(1, 0), consent(3, 0), consent(5, 0)), []int64{0, 1, 3, 5})
		if toldOf(got.Sigs) != toldOf(rising.Sigs) {
			t.Error(order, got.Sigs, rising.Sigs)
		}
	}
	one := dealt(1, 3)
	got := wantCeremony(t, "one alone", one, yes(proposal(2, "a"), consent(3, 0), proposal(2, "a"), consent(1, 1)), []int64{0, 3}, []int64{1, 1})
	if got.Sigs[0].Sig == got.Sigs[1].Sig {
		t.Error("two proposals with one What", got.Sigs)
	}
}

// By the document's words, step by step: SignPart of each, SignJoin of all.
func TestSignaturesByParts(t *testing.T) {
	r := rand.New(rand.NewSource(211))
	for range 100 {
		d := anyDealing(r)
		what, shares := someText(r.Intn(101)), []impl.Share(nil)
		shares, _ = impl.Deal(d.secret, d.more, d.n)
		who := oneTo(d.n)
		r.Shuffle(len(who), func(i int, j int) { who[i], who[j] = who[j], who[i] })
		who = who[:len(d.more)+1]
		ops := []impl.CeOp{{Kind: impl.CePropose, Who: 1, What: []byte("other")}, {Kind: impl.CePropose, Who: 1, What: what}}
		for _, by := range who {
			ops = append(ops, consent(by, 1))
		}
		slices.Sort(who)
		all, turns := int64(1), []int64(nil)
		for _, by := range who {
			k := 1 + int64(impl.HashAll([][]byte{[]byte("turn"), impl.PutNum(shares[by-1].Value), {1}, what})%(impl.Q-1))
			all, turns = all*impl.KeyOf(k)%impl.P, append(turns, k)
		}
		e := impl.Challenge(all, impl.KeyOf(d.secret), what)
		var parts []int64
		for i, by := range who {
			part, ok := impl.SignPart(shares[by-1], who, turns[i], e)
			if !ok {
				t.Fatal("no part", d, who)
			}
			parts = append(parts, part)
		}
		want, _ := impl.SignJoin(parts, e)
		got, ok := d.run(ops)
		if !ok || len(got.Sigs) != 1 || got.Sigs[0].Sig != want || !slices.Equal(got.Sigs[0].Who, who) || got.Sigs[0].N != 1 {
			t.Fatal(d, who, got, ok, want)
		}
		if !impl.Verify(got.Key, what, want) || impl.Verify(got.Key, append(what, 1), want) || impl.Verify(impl.KeyOf(d.secret%(impl.Q-1)+1), what, want) {
			t.Error("taken otherwise", d, who)
		}
	}
}

func TestTwoProposalsWithOneWhat(t *testing.T) {
	d := dealt(2, 4)
	got := wantCeremony(t, "one What", d, yes(
		proposal(1, "same"), proposal(2, "same"), proposal(1, "same"), consent(1, 0), consent(2, 1), consent(3, 1), consent(3, 0), consent(1, 2), consent(3, 2),
	), []int64{1, 2, 3}, []int64{0, 1, 3}, []int64{2, 1, 3})
	if got.Sigs[1].Sig == got.Sigs[2].Sig || got.Sigs[0].Sig == got.Sigs[1].Sig {
		t.Error("one signature for two proposals", got.Sigs)
	}
	for _, s := range got.Sigs {
		if !impl.Verify(got.Key, []byte("same"), s.Sig) {
			t.Error("not taken", s)
		}
	}
	// What a consent has as its What is not what is signed.
	other := []impl.CeOp{proposal(1, "same"), consent(1, 0), consent(3, 0)}
	plain, _ := d.run(other)
	other[1].What, other[2].What = []byte("other"), someText(300)
	if told, ok := d.run(other); !ok || toldOf(told.Sigs) != toldOf(plain.Sigs) || told.Minutes == plain.Minutes {
		t.Error("a What that is not used", told, plain)
	}
}

func TestMinutes(t *testing.T) {
	d := dealt(2, 3)
	first := impl.HashAll([][]byte{make([]byte, 8), {1}, {2}, {0}, []byte("a")})
	if got := wantCeremony(t, "one op", d, yes(proposal(2, "a"))); got.Minutes != first {
		t.Error("one op", got.Minutes, first)
	}
	second := impl.HashAll([][]byte{eight(first), {2}, {3}, {1}, nil})
	if got := wantCeremony(t, "two ops", d, yes(proposal(2, "a"), consent(3, 0))); got.Minutes != second {
		t.Error("two ops", got.Minutes, second)
	}
	late := impl.HashAll([][]byte{eight(first), {6}, {0}, {2}, []byte("late")})
	tick := waiting(40)
	tick.What = []byte("late")
	deeds := slices.Concat(yes(proposal(2, "a")), no(outGoes(4)), yes(tick), no(consent(1, 0)))
	if got := wantCeremony(t, "what is not done", d, deeds); got.Minutes != late {
		t.Error("what is not done", got.Minutes, late)
	}
	// N is not in the minutes; each of the others is.
	base := []impl.CeOp{proposal(1, "a"), consent(1, 0), waiting(5), outGoes(3)}
	was, _ := d.run(base)
	for i, op := range base {
		with := func(change impl.CeOp) uint64 {
			ops := slices.Clone(base)
			ops[i] = change
			got, ok := d.run(ops)
			if !ok || slices.Contains(got.Codes, impl.CeNo) {
				t.Fatal("not done", ops, got)
			}
			return got.Minutes
		}
		for _, what := range [][]byte{[]byte("b"), []byte("aa"), someText(100)} {
			if with(impl.CeOp{Kind: op.Kind, Who: op.Who, What: what, N: op.N}) == was.Minutes {
				t.Error("What", i, what)
			}
		}
		if op.Who > 0 && with(impl.CeOp{Kind: op.Kind, Who: 2, What: op.What, N: op.N}) == was.Minutes {
			t.Error("Who", i)
		}
		if op.Kind != impl.CeAgree && with(impl.CeOp{Kind: op.Kind, Who: op.Who, What: op.What, N: op.N + 1}) != was.Minutes {
			t.Error("N", i)
		}
	}
}

func TestWhatIsRefusedIsNotInTheMinutes(t *testing.T) {
	r := rand.New(rand.NewSource(212))
	refusals, changes := 0, 0
	for range 300 {
		d := anyDealing(r)
		ops := anyCeOps(r, d, 1+r.Intn(60))
		got, ok := d.run(ops)
		if !ok {
			t.Fatal(d, ops)
		}
		i := r.Intn(len(ops))
		other := slices.Clone(ops)
		if got.Codes[i] == impl.CeOK {
			other[i].What = append(bytes.Clone(ops[i].What), 7)
			if len(other[i].What) > 100 {
				continue
			}
			changes++
		} else {
			// It may have closed a proposal; as an op of no kind it does nothing at all.
			if ops[i].Kind == impl.CeAgree {
				continue
			}
			other[i] = impl.CeOp{Kind: 7, Who: 1, What: someText(5), N: 3}
			refusals++
		}
		if told, _ := d.run(other); (told.Minutes == got.Minutes) != (got.Codes[i] == impl.CeNo) {
			t.Fatal(ops, i, got, told)
		}
	}
	if refusals < 20 || changes < 50 {
		t.Error("seen too little", refusals, changes)
	}
}

func TestCeremoniesOfAnyOps(t *testing.T) {
	r := rand.New(rand.NewSource(213))
	var codes [7][2]int
	sigs, late := 0, 0
	for range 4000 {
		d := anyDealing(r)
		ops := anyCeOps(r, d, r.Intn(61))
		got, ok := d.run(ops)
		want, p := slowCeremony(d, ops)
		if !ok || toldOf(got) != toldOf(want) {
			t.Fatal(d, ops, "got", got, ok, "want", want)
		}
		for i, op := range ops {
			if within(op.Kind, 1, 6) {
				codes[op.Kind][got.Codes[i]]++
			}
			if op.Kind == impl.CeAgree && p.until(i).isOpen(op.N) && p.until(i).mayAgree(op) && p.until(i).isOld(op.N) {
				late++
			}
		}
		sigs += len(got.Sigs)
	}
	for kind := 1; kind <= 6; kind++ {
		if codes[kind][0] < 200 || codes[kind][1] < 200 {
			t.Error("kind", kind, codes[kind])
		}
	}
	if sigs < 2000 || late < 500 {
		t.Error("seen too little", sigs, late)
	}
}

// Promise 22, told by beginnings of a run: a signature comes with the op by which enough agree, and with no other.
func TestNoSignatureWithoutEnough(t *testing.T) {
	r := rand.New(rand.NewSource(214))
	signed := 0
	for range 150 {
		d := anyDealing(r)
		ops := anyCeOps(r, d, 60)
		whole, _ := d.run(ops)
		before := 0
		for i := range ops {
			got, ok := d.run(ops[:i+1])
			if !ok || !slices.Equal(got.Codes, whole.Codes[:i+1]) || toldOf(got.Sigs) != toldOf(whole.Sigs[:len(got.Sigs)]) {
				t.Fatal("a beginning", d, ops[:i+1], got, whole)
			}
			if len(got.Sigs) == before {
				continue
			}
			s, p := got.Sigs[before], ceremonyPast{dealing: d, ops: ops[:i+1], codes: got.Codes}
			what := ops[p.proposedAt(s.N)].What
			if len(got.Sigs) != before+1 || ops[i].Kind != impl.CeAgree || ops[i].N != s.N || len(s.Who) != len(d.more)+1 ||
				!slices.IsSorted(s.Who) || !slices.Equal(s.Who, p.agreed(s.N)) || slices.ContainsFunc(s.Who, p.isOut) || !impl.Verify(got.Key, what, s.Sig) {
				t.Fatal("a signature", d, ops[:i+1], s)
			}
			before, signed = len(got.Sigs), signed+1
		}
	}
	if signed < 100 {
		t.Error("seen too little", signed)
	}
}

// rolling are the arguments of RollOver.
type rolling struct {
	old, now       impl.Secret
	name           impl.Name
	from, both, to int64
	serial         int64
}

func plainRolling() rolling {
	return rolling{old: secretNo(1), now: secretNo(2), name: partsOf("The Root", "x"), from: 100, both: 200, to: 300, serial: 7}
}

func (w rolling) with(change func(w *rolling)) rolling {
	change(&w)
	return w
}

func (w rolling) run() ([]impl.Cert, int64) {
	return impl.RollOver(w.old, w.now, w.name, w.from, w.both, w.to, w.serial)
}

// certs are written by the document's words, of secrets that last.
func (w rolling) certs() []impl.Cert {
	of := func(key impl.Secret, to int64, serial int64) impl.Cert {
		return impl.Cert{
			Serial: serial, Issuer: w.name, Subject: w.name, From: w.from, To: to, Key: pubOfSecret(key), IsCA: true, Room: -1, Uses: 2 + 4,
			Policies: []int64{0}, NeedPolicy: -1, NoMap: -1, NoAny: -1,
		}
	}
	list := []impl.Cert{of(w.now, w.to, w.serial), of(w.now, w.both, w.serial+1), of(w.old, w.both, w.serial+2)}
	for i, by := range []impl.Secret{w.now, w.old, goesOn(w.now)} {
		list[i].Sig = slowBytes(by, slowCertBody(list[i]))
	}
	return list
}

func wantRolled(t *testing.T, why string, w rolling) []impl.Cert {
	t.Helper()
	got, code := w.run()
	if code != 0 || !slices.EqualFunc(got, w.certs(), sameCert) {
		t.Error(why, "got", got, code, "want", w.certs())
		return got
	}
	signers := []impl.Pub{pubOfSecret(w.now), pubOfSecret(w.old), pubOfSecret(w.now)}
	for i, c := range got {
		if !impl.CertOk(c) || !impl.CertSigned(c, signers[i]) || impl.CertSigned(c, signers[(i+1)%2]) {
			t.Error(why, "signed otherwise", i, c)
		}
	}
	return got
}

func wantNotRolled(t *testing.T, why string, w rolling, want int64) {
	t.Helper()
	if got, code := w.run(); code != want || len(got) != 0 {
		t.Error(why, "got", got, code, "want", want)
	}
}

func TestRollOverOfSecrets(t *testing.T) {
	wantRolled(t, "plain", plainRolling())
	last := func(seed uint64, height int64, left int64) impl.Secret {
		return impl.Secret{Scheme: impl.ScTree, X: seed, Height: height, Next: 1<<height - left}
	}
	olds := []impl.Secret{secretNo(1), {Scheme: impl.ScGroup, X: 1}, treeNo(7), last(7, 0, 1), last(7, 1, 1), last(7, 3, 1), last(7, 5, 2), last(7, 2, 4)}
	nows := []impl.Secret{secretNo(2), {Scheme: impl.ScGroup, X: impl.Q - 1}, treeNo(8), last(8, 1, 2), last(8, 5, 2), last(8, 3, 4)}
	for _, old := range olds {
		for _, now := range nows {
			wantRolled(t, "secrets", plainRolling().with(func(w *rolling) { w.old, w.now = old, now }))
		}
		for _, now := range []impl.Secret{last(8, 0, 1), last(8, 1, 1), last(8, 5, 1), last(8, 0, 0), last(8, 1, 0), last(8, 5, 0)} {
			wantNotRolled(t, "now can't sign twice", plainRolling().with(func(w *rolling) { w.old, w.now = old, now }), impl.TrEmpty)
		}
	}
	for _, now := range nows {
		for _, old := range []impl.Secret{last(7, 0, 0), last(7, 1, 0), last(7, 5, 0)} {
			wantNotRolled(t, "old can't sign", plainRolling().with(func(w *rolling) { w.old, w.now = old, now }), impl.TrEmpty)
		}
	}
}

func TestRollOverToItself(t *testing.T) {
	for _, s := range rightSecrets() {
		wantNotRolled(t, "one secret", plainRolling().with(func(w *rolling) { w.old, w.now = s, s }), impl.CBad)
	}
	for height := range int64(6) {
		for next := range int64(1)<<height + 1 {
			w := plainRolling().with(func(w *rolling) {
				w.old, w.now = impl.Secret{Scheme: impl.ScTree, X: 7, Height: height, Next: next}, impl.Secret{Scheme: impl.ScTree, X: 7, Height: height}
			})
			wantNotRolled(t, "one Pub", w, impl.CBad)
			w.old, w.now = w.now, w.old
			wantNotRolled(t, "one Pub", w, impl.CBad)
		}
	}
	wantRolled(t, "one X, two heights", plainRolling().with(func(w *rolling) {
		w.old, w.now = impl.Secret{Scheme: impl.ScTree, X: 5, Height: 1}, impl.Secret{Scheme: impl.ScTree, X: 5, Height: 2}
	}))
	wantRolled(t, "one X, two schemes", plainRolling().with(func(w *rolling) {
		w.old, w.now = impl.Secret{Scheme: impl.ScTree, X: 5, Height: 1}, impl.Secret{Scheme: impl.ScGroup, X: 5}
	}))
}

func TestRollOverOfWrongSecrets(t *testing.T) {
	for _, wrong := range wrongSecrets() {
		wantNotRolled(t, "old is none", plainRolling().with(func(w *rolling) { w.old = wrong }), impl.CBad)
		wantNotRolled(t, "now is none", plainRolling().with(func(w *rolling) { w.now = wrong }), impl.CBad)
		wantNotRolled(t, "both are none", plainRolling().with(func(w *rolling) { w.old, w.now = wrong, wrong }), impl.CBad)
		wantNotRolled(t, "old is none, now is used up", plainRolling().with(func(w *rolling) { w.old, w.now = wrong, usedUp(1) }), impl.CBad)
	}
}

func TestRollOverTimes(t *testing.T) {
	const top = impl.MaxTime
	for _, row := range [][3]int64{{0, 0, 0}, {5, 5, 5}, {5, 5, 6}, {5, 6, 6}, {0, 1, 2}, {0, 0, top}, {0, top, top}, {top, top, top}, {top - 1, top - 1, top}} {
		wantRolled(t, "times", plainRolling().with(func(w *rolling) { w.from, w.both, w.to = row[0], row[1], row[2] }))
	}
	for _, row := range [][3]int64{
		{6, 5, 5}, {6, 5, 7}, {5, 6, 5}, {5, 7, 6}, {7, 6, 5}, {6, 5, 6}, {-1, 0, 1}, {-2, -1, 0}, {-3, -2, -1}, {0, 0, top + 1}, {0, top + 1, top + 1}, {top + 1, top + 1, top + 1},
		{math.MinInt64, 0, 5}, {0, 5, math.MaxInt64}, {math.MinInt64, math.MinInt64, math.MaxInt64}, {0, math.MinInt64, 5}, {0, math.MaxInt64, 5},
	} {
		wantNotRolled(t, "times", plainRolling().with(func(w *rolling) { w.from, w.both, w.to = row[0], row[1], row[2] }), impl.CBad)
	}
}

func TestRollOverNamesAndSerials(t *testing.T) {
	for _, serial := range []int64{1, 2, 1 << 40, 1<<62 - 3, 1<<62 - 2} {
		wantRolled(t, "serial", plainRolling().with(func(w *rolling) { w.serial = serial }))
	}
	for _, serial := range []int64{math.MinInt64, -3, -2, -1, 0, 1<<62 - 1, 1 << 62, 1<<62 + 1, math.MaxInt64 - 2, math.MaxInt64 - 1, math.MaxInt64} {
		wantNotRolled(t, "serial", plainRolling().with(func(w *rolling) { w.serial = serial }), impl.CBad)
	}
	for _, name := range []impl.Name{partsOf("a"), partsOf("A  b", " c"), partsOf(strings.Repeat("x", impl.MaxValue)), {Parts: slices.Repeat([]impl.Part{{Attr: 1, Value: "x"}}, impl.MaxParts)}} {
		wantRolled(t, "name", plainRolling().with(func(w *rolling) { w.name = name }))
	}
	for _, name := range []impl.Name{
		{}, partsOf(""), partsOf("a", ""), partsOf(strings.Repeat("x", impl.MaxValue+1)), partsOf("a\n"), {Parts: []impl.Part{{Attr: 0, Value: "x"}}},
		{Parts: slices.Repeat([]impl.Part{{Attr: 1, Value: "x"}}, impl.MaxParts+1)},
	} {
		wantNotRolled(t, "name", plainRolling().with(func(w *rolling) { w.name = name }), impl.CBad)
	}
}

func TestWhichCodeRollOverTells(t *testing.T) {
	bad := []func(w *rolling){
		func(w *rolling) { w.from = w.both + 1 },
		func(w *rolling) { w.to = w.both - 1 },
		func(w *rolling) { w.name = impl.Name{} },
		func(w *rolling) { w.serial = 0 },
		// The last certificate alone is not right.
		func(w *rolling) { w.serial = 1<<62 - 1 },
		// The first one alone.
		func(w *rolling) { w.to = impl.MaxTime + 1 },
	}
	empty := []func(w *rolling){
		func(w *rolling) { w.old = usedUp(1) },
		func(w *rolling) { w.now = usedUp(1) },
		func(w *rolling) { w.now = impl.Secret{Scheme: impl.ScTree, X: 7, Height: 1, Next: 1} },
		func(w *rolling) { w.old, w.now = usedUp(2), usedUp(1) },
	}
	for _, e := range empty {
		wantNotRolled(t, "used up", plainRolling().with(e), impl.TrEmpty)
		for i, b := range bad {
			wantNotRolled(t, "used up, and bad", plainRolling().with(e).with(b), impl.CBad)
			if i == 0 {
				wantNotRolled(t, "of wrong secrets", plainRolling().with(e).with(func(w *rolling) { w.old.Scheme = 0 }), impl.CBad)
			}
		}
	}
}

// signedFor is a certificate of somebody at the end, by the authority of a rolling with one of its keys.
func (w rolling) signedFor(serial int64, by impl.Secret) impl.Cert {
	c := plainLink(serial, w.name, partsOf("end"), false)
	c.From, c.To, c.Key = 0, 1000, pubNo(9)
	c, _, _ = impl.IssueCert(c, by)
	return c
}

// Promise 22: who trusts one of the keys trusts what the other signed as long as both are to hold.
func TestKeysThatFollowOneAnother(t *testing.T) {
	for _, w := range []rolling{
		plainRolling(),
		plainRolling().with(func(w *rolling) { w.both = w.from }),
		plainRolling().with(func(w *rolling) { w.to = w.both }),
		plainRolling().with(func(w *rolling) { w.from, w.both, w.to = 1, 1, 1 }),
		plainRolling().with(func(w *rolling) {
			w.old, w.now = impl.Secret{Scheme: impl.ScTree, X: 1, Height: 1}, impl.Secret{Scheme: impl.ScTree, X: 2, Height: 2}
		}),
	} {
		certs := wantRolled(t, "certificates", w)
		ends := []impl.Cert{w.signedFor(1, w.old), w.signedFor(2, w.now)}
		anchors := []impl.Anchor{{Name: w.name, Key: pubOfSecret(w.old), Until: 1000}, {Name: w.name, Key: pubOfSecret(w.now), Until: 1000}}
		for _, at := range []int64{w.from - 1, w.from, w.from + 1, w.both - 1, w.both, w.both + 1, w.to - 1, w.to, w.to + 1} {
			q := plainAsk()
			q.At = at
			both := within(at, w.from, w.both)
			check := func(why string, path []impl.Cert, a impl.Anchor, taken bool) {
				t.Helper()
				want := int64(0)
				if !taken {
					want = impl.PcTime
				}
				if code, position := impl.Check(path, a, q); code != want || position != 0 {
					t.Error(why, w, at, "got", code, position)
				}
			}
			check("old trusts what now signed", []impl.Cert{certs[1], ends[1]}, anchors[0], both)
			check("now trusts what old signed", []impl.Cert{certs[2], ends[0]}, anchors[1], both)
			check("now's own", []impl.Cert{certs[0], ends[1]}, anchors[1], within(at, w.from, w.to))
			check("old's itself", ends[:1], anchors[0], true)
			check("now's itself", ends[1:], anchors[1], true)
			pool := slices.Concat(certs, ends)
			for i, a := range anchors {
				for j := range ends {
					_, _, code := impl.Find(pool, []impl.Anchor{a}, int64(3+j), q)
					if (code == 0) != (i == j || both) {
						t.Error("found", w, at, i, j, code)
					}
				}
			}
		}
	}
}
