package tests

import (
	"math"
	"math/rand"
	"slices"
	"strconv"
	"strings"
	"testing"

	"loop.example/g00041/impl"
)

func TestEnrolConstants(t *testing.T) {
	got := []int64{
		impl.MaxHolds, impl.MaxEnOps, impl.MaxRate, impl.Window, impl.Limit, impl.WyAddr, impl.WyName, impl.WyMail,
		impl.EoOrder, impl.EoPlace, impl.EoReply, impl.EoCheck, impl.EoGive, impl.EoPower, impl.EoLose, impl.EoTick,
		impl.EoOK, impl.EoNo, impl.EoRate, impl.EoWild, impl.EoOpen,
	}
	if !slices.Equal(got, []int64{10, 100, 3, 100, 50, 1, 2, 3, 1, 2, 3, 4, 5, 6, 7, 8, 0, 1, 2, 3, 4}) {
		t.Error(got)
	}
}

func slowToken(party int64, order int64) uint64 {
	return impl.HashAll([][]byte{[]byte("token"), impl.PutNum(party), impl.PutNum(order)})
}

func TestTokenOf(t *testing.T) {
	if got := impl.TokenOf(0, 0); got != impl.Hash([]byte{3, 5, 't', 'o', 'k', 'e', 'n', 1, 0, 1, 0}) {
		t.Error("of 0 and 0", got)
	}
	if got := impl.TokenOf(1, 128); got != impl.Hash([]byte{3, 5, 't', 'o', 'k', 'e', 'n', 1, 1, 2, 129, 0}) {
		t.Error("of 1 and 128", got)
	}
	seen := map[uint64]bool{}
	list := []int64{0, 1, 5, 6, 99, 127, 128, 1 << 31, 1 << 62, math.MaxInt64}
	for _, party := range list {
		for _, order := range list {
			got := impl.TokenOf(party, order)
			if got != slowToken(party, order) || got == 0 || seen[got] {
				t.Error(party, order, got)
			}
			seen[got] = true
		}
		for _, below := range []int64{-1, -2, math.MinInt64} {
			if impl.TokenOf(party, below) != 0 || impl.TokenOf(below, party) != 0 || impl.TokenOf(below, below) != 0 {
				t.Error("below 0", party, below)
			}
		}
	}
}

func manyHolds(count int) []impl.Hold {
	var out []impl.Hold
	for i := range count {
		out = append(out, impl.Hold{Host: "h" + strconv.Itoa(i), Party: int64(i % 6)})
	}
	return out
}

func wantNoEnrol(t *testing.T, why string, holds []impl.Hold, ops []impl.EnOp) {
	t.Helper()
	if got, ok := impl.Enrol(holds, ops); ok || !sameReport(got, impl.EnReport{}) {
		t.Error(why, "got", got, ok)
	}
}

func TestHoldsAndOpsThatMayBe(t *testing.T) {
	if got, ok := impl.Enrol(nil, nil); !ok || !sameReport(got, impl.EnReport{}) {
		t.Error("nothing", got, ok)
	}
	for _, count := range []int{0, 1, 9, 10} {
		var deeds []deed
		for i, h := range manyHolds(count) {
			if i < 6 {
				deeds = append(deeds, done(orderBy(h.Party, h.Host, impl.WyAddr)))
			}
		}
		for i, h := range manyHolds(count) {
			if i < 6 {
				deeds = append(deeds, done(placeBy(h.Party, h.Host, impl.WyAddr, int64(i))), notDone(placeBy((h.Party+1)%6, h.Host, impl.WyAddr, int64(i))))
			} else {
				deeds = append(deeds, done(placeBy(h.Party, h.Host, impl.WyName, 0)), notDone(placeBy((h.Party+1)%6, h.Host, impl.WyName, 0)))
			}
		}
		wantDeeds(t, "holds", manyHolds(count), deeds)
	}
	wantNoEnrol(t, "one hold more", manyHolds(11), nil)
	wantNoEnrol(t, "many holds", manyHolds(1000), nil)
	for _, count := range []int{99, 100} {
		got := wantDeeds(t, "ops", nil, slices.Repeat([]deed{done(tickBy(1000))}, count))
		if got.Now != int64(1000*count) || len(got.Codes) != count {
			t.Error("ops", got)
		}
	}
	wantNoEnrol(t, "one op more", nil, slices.Repeat([]impl.EnOp{tickBy(1)}, 101))
	wantNoEnrol(t, "one op more, of no kind", nil, make([]impl.EnOp, 101))
	wantNoEnrol(t, "many ops", manyHolds(3), make([]impl.EnOp, 100000))
}

func TestHoldsThatAreNotSo(t *testing.T) {
	ops := []impl.EnOp{tickBy(5)}
	for at := range 4 {
		with := func(h impl.Hold) []impl.Hold { return slices.Insert(manyHolds(3), at, h) }
		for _, host := range []string{"", "*", "*.a", "*.a.b", "A", "-a", "a-", "a..b", ".a", "a.", "a b", "a_b", hostLong(101), strings.Repeat("a", 21), "a.b.c.d.e.f.g.h.i.j.k", "\xff"} {
			wantNoEnrol(t, "host "+host, with(impl.Hold{Host: host}), ops)
		}
		for _, host := range []string{"a", "0", "a.b", hostLong(100), "h", "h10"} {
			if got, ok := impl.Enrol(with(impl.Hold{Host: host, Party: 5}), ops); !ok || got.Now != 5 {
				t.Error(host, got, ok)
			}
		}
		for _, party := range append(farNumbers(), -1, 6, 7) {
			wantNoEnrol(t, "party", with(impl.Hold{Host: "a", Party: party}), ops)
		}
		for party := range int64(6) {
			if got, ok := impl.Enrol(with(impl.Hold{Host: "a", Party: party}), ops); !ok || got.Now != 5 {
				t.Error(party, got, ok)
			}
			for _, twice := range []string{"h0", "h1", "h2"} {
				wantNoEnrol(t, "twice", with(impl.Hold{Host: twice, Party: party}), ops)
			}
		}
	}
}

// wellDone is a run in which an op of each kind is done; the ops of others are put behind it.
func wellDone() []deed {
	return []deed{
		done(orderBy(0, "a.x", impl.WyAddr)), done(orderBy(1, "*.a.x", impl.WyName)), done(orderBy(0, "a.x", impl.WyMail)),
		done(placeBy(0, "a.x", impl.WyAddr, 0)), done(placeBy(0, "a.x", impl.WyName, 1)), done(replyBy(0, 2)),
		done(powerOf(2, "b.x", impl.WyMail)), done(loseOf(2, "b.x", impl.WyMail)), done(tickBy(1)), done(giveTo(3, "c.x")),
	}
}

func holdsAX() []impl.Hold { return []impl.Hold{{Host: "a.x", Party: 0}} }

func TestWellDone(t *testing.T) {
	wantDeeds(t, "not looked at", holdsAX(), wellDone())
	got := wantDeeds(t, "each way", holdsAX(), append(wellDone(), done(checkOf(1)), done(checkOf(0)), done(checkOf(2))), 1, 0, 2)
	want := []impl.Issued{{Party: 1, Host: "*.a.x", At: 1, Order: 1}, {Party: 0, Host: "a.x", At: 1, Order: 0}, {Party: 0, Host: "a.x", At: 1, Order: 2}}
	if !slices.Equal(got.Issued, want) || got.Now != 1 {
		t.Error(got)
	}
}

func TestPartiesThatAreNone(t *testing.T) {
	for _, party := range append(farNumbers(), -1, 6, 7) {
		for _, d := range wellDone() {
			op := d.op
			op.Party = party
			code := int64(impl.EoNo)
			if op.Kind == impl.EoTick {
				code = impl.EoOK
			}
			wantDeeds(t, "party "+strconv.FormatInt(party, 10), holdsAX(), append(wellDone(), deed{op, code}))
		}
		check, tick := checkOf(0), tickBy(7)
		check.Party, tick.Party = party, party
		got := wantDeeds(t, "no Party is looked at", holdsAX(), append(wellDone(), done(tick), done(check), notDone(check)), 0)
		if got.Now != 8 {
			t.Error(got)
		}
	}
	for party := range int64(6) {
		deeds := []deed{done(giveTo(party, "a.x")), done(orderBy(party, "a.x", impl.WyMail)), done(replyBy(party, 0)), done(checkOf(0))}
		wantDeeds(t, "each party", nil, deeds, 0)
	}
}

func TestKindsThatAreNone(t *testing.T) {
	for _, kind := range append(farNumbers(), 0, -1, 9, 10) {
		for _, op := range []impl.EnOp{{}, {Party: 6}, {Host: "a.x", How: 1}, {Host: "a.x", How: 2, N: 1}, {N: 5}} {
			op.Kind = kind
			got := wantDeeds(t, "kind", holdsAX(), append(append(wellDone(), notDone(op)), done(checkOf(0))), 0)
			if got.Now != 1 {
				t.Error("kind", kind, got)
			}
		}
	}
}

func TestHostsAndWaysOfOrders(t *testing.T) {
	for _, host := range []string{"a", "a.x", "other.net", hostLong(100)} {
		for how := int64(1); how <= 3; how++ {
			wantDeeds(t, host, holdsAX(), []deed{done(orderBy(4, host, how)), {checkOf(0), impl.EoOpen}})
		}
		for _, how := range append(farNumbers(), 0, 4) {
			wantDeeds(t, host, holdsAX(), []deed{notDone(orderBy(4, host, how)), notDone(checkOf(0))})
		}
	}
	for _, host := range []string{"*.a.x", "*.b.c.d"} {
		wantDeeds(t, host, holdsAX(), []deed{{orderBy(4, host, impl.WyAddr), impl.EoWild}, {orderBy(4, host, impl.WyMail), impl.EoWild}, notDone(checkOf(0)), done(orderBy(4, host, impl.WyName)), {checkOf(0), impl.EoOpen}})
		for _, how := range append(farNumbers(), 0, 4) {
			wantDeeds(t, host, holdsAX(), []deed{notDone(orderBy(4, host, how))})
		}
	}
	for _, host := range []string{"", "*", "*.a", "a.*.b", "*a.b.c", "*.*.a.b", "A.x", "-", "a..x", hostLong(101), "a.x "} {
		for how := int64(0); how <= 4; how++ {
			wantDeeds(t, host, holdsAX(), []deed{notDone(orderBy(4, host, how)), notDone(checkOf(0))})
		}
	}
}

// The codes of an order in the order in which they are told: a wild host by another way is told ahead of the rate.
func TestWhichCodeOfAnOrderIsTold(t *testing.T) {
	full := slices.Repeat([]deed{done(orderBy(1, "q.x", impl.WyName))}, 3)
	for _, d := range []deed{
		{orderBy(1, "q.x", impl.WyName), impl.EoRate}, {orderBy(1, "*.q.x", impl.WyName), impl.EoRate},
		{orderBy(1, "*.q.x", impl.WyAddr), impl.EoWild}, {orderBy(1, "*.q.x", impl.WyMail), impl.EoWild},
		{orderBy(1, "*.x", impl.WyName), impl.EoNo}, {orderBy(1, "*.x", impl.WyMail), impl.EoNo}, {orderBy(1, "*.q.x", 0), impl.EoNo}, {orderBy(1, "q.x", 4), impl.EoNo},
		{orderBy(6, "q.x", impl.WyName), impl.EoNo}, {orderBy(6, "*.q.x", impl.WyMail), impl.EoNo}, {orderBy(2, "q.x", impl.WyName), impl.EoOK},
	} {
		wantDeeds(t, d.op.Host, nil, append(slices.Clone(full), d))
	}
}

func TestTheRateOfOrders(t *testing.T) {
	order := func(party int64) impl.EnOp { return orderBy(party, "q.x", impl.WyName) }
	for _, row := range []struct {
		waits int64
		code  int64
	}{{0, impl.EoRate}, {1, impl.EoRate}, {98, impl.EoRate}, {99, impl.EoRate}, {100, impl.EoOK}, {101, impl.EoOK}, {1000, impl.EoOK}} {
		deeds := []deed{done(order(1)), done(order(1)), done(order(1)), {order(1), impl.EoRate}, done(order(2)), done(tickBy(row.waits)), {order(1), row.code}}
		wantDeeds(t, "three at once", nil, deeds)
	}
	// One by one they grow old.
	wantDeeds(t, "one by one", nil, []deed{
		done(order(1)), done(tickBy(10)), done(order(1)), done(tickBy(10)), done(order(1)), done(tickBy(79)), {order(1), impl.EoRate},
		done(tickBy(1)), done(order(1)), {order(1), impl.EoRate}, done(tickBy(9)), {order(1), impl.EoRate}, done(tickBy(1)), done(order(1)), {order(1), impl.EoRate},
		done(tickBy(10)), done(order(1)), {order(1), impl.EoRate},
	})
	wantDeeds(t, "of two", nil, []deed{
		done(order(1)), done(order(2)), done(order(1)), done(order(2)), done(order(1)), {order(1), impl.EoRate}, done(order(2)), {order(2), impl.EoRate}, {order(1), impl.EoRate}, done(order(3)),
	})
	// What is refused is no order, and does not count; what is closed counts.
	wantDeeds(t, "refused", nil, []deed{
		notDone(orderBy(1, "*.x", impl.WyName)), {orderBy(1, "*.q.x", impl.WyMail), impl.EoWild}, notDone(orderBy(1, "q.x", 0)), done(order(1)), done(order(1)),
		done(order(1)), {order(1), impl.EoRate}, done(tickBy(99)), {order(1), impl.EoRate}, done(tickBy(1)), done(order(1)), done(order(1)), done(order(1)), {order(1), impl.EoRate},
	})
	wantDeeds(t, "issued", []impl.Hold{{Host: "q.x", Party: 1}}, []deed{
		done(order(1)), done(order(1)), done(order(1)), done(placeBy(1, "q.x", impl.WyName, 0)), done(checkOf(0)), {order(1), impl.EoRate},
		done(tickBy(50)), {checkOf(1), impl.EoRate}, {checkOf(2), impl.EoRate}, {order(1), impl.EoRate}, done(tickBy(49)), {order(1), impl.EoRate}, done(tickBy(1)), done(order(1)),
	}, 0)
	// Other hosts and ways are orders like any.
	wantDeeds(t, "other hosts", nil, []deed{
		done(orderBy(1, "a", impl.WyAddr)), done(orderBy(1, "b", impl.WyMail)), done(orderBy(1, "*.c.d", impl.WyName)), {orderBy(1, "e", impl.WyAddr), impl.EoRate},
	})
}

func TestHowOldAnOrderMayBe(t *testing.T) {
	for _, row := range []struct {
		waits int64
		code  int64
	}{{0, impl.EoOK}, {1, impl.EoOK}, {48, impl.EoOK}, {49, impl.EoOK}, {50, impl.EoRate}, {51, impl.EoRate}, {1000, impl.EoRate}} {
		shown := map[int64][]deed{
			impl.WyAddr: {done(placeBy(0, "a.x", impl.WyAddr, 0))}, impl.WyName: {done(placeBy(0, "a.x", impl.WyName, 0))}, impl.WyMail: {done(replyBy(0, 0))},
		}
		var issued []int64
		if row.code == impl.EoOK {
			issued = []int64{0}
		}
		for how := int64(1); how <= 3; how++ {
			first := []deed{done(tickBy(7)), done(orderBy(0, "a.x", how))}
			late := slices.Concat(first, []deed{done(tickBy(row.waits))}, shown[how], []deed{{checkOf(0), row.code}, notDone(checkOf(0))})
			got := wantDeeds(t, "shown late", holdsAX(), late, issued...)
			if len(issued) == 1 && got.Issued[0].At != 7+row.waits {
				t.Error(got)
			}
			soon := slices.Concat(first, shown[how], []deed{done(tickBy(row.waits)), {checkOf(0), row.code}, notDone(checkOf(0))})
			wantDeeds(t, "shown soon", holdsAX(), soon, issued...)
			code := row.code
			if code == impl.EoOK {
				code = impl.EoOpen
			}
			wantDeeds(t, "not shown", holdsAX(), append(slices.Clone(first), done(tickBy(row.waits)), deed{checkOf(0), code}))
		}
	}
	// It stays open while nobody looks, however old it is; looked at, it is closed for good.
	wantDeeds(t, "old", holdsAX(), []deed{
		done(orderBy(0, "a.x", impl.WyMail)), done(tickBy(1000)), done(replyBy(0, 0)), {checkOf(0), impl.EoRate}, notDone(checkOf(0)), notDone(replyBy(0, 0)),
	})
	wantDeeds(t, "looked at often", holdsAX(), []deed{
		done(orderBy(0, "a.x", impl.WyName)), {checkOf(0), impl.EoOpen}, done(tickBy(25)), {checkOf(0), impl.EoOpen}, done(tickBy(24)), {checkOf(0), impl.EoOpen},
		done(placeBy(0, "a.x", impl.WyName, 0)), done(checkOf(0)), notDone(checkOf(0)),
	}, 0)
}

func TestOrdersThatAreNotThere(t *testing.T) {
	two := []deed{done(orderBy(0, "a.x", impl.WyMail)), done(orderBy(0, "a.x", impl.WyMail))}
	for _, n := range append(farNumbers(), -1, 2, 3) {
		deeds := append(slices.Clone(two), notDone(checkOf(n)), notDone(replyBy(0, n)), notDone(placeBy(0, "a.x", impl.WyName, n)))
		wantDeeds(t, "no such order", holdsAX(), deeds)
	}
	wantDeeds(t, "no orders", holdsAX(), []deed{notDone(checkOf(0)), notDone(replyBy(0, 0)), notDone(placeBy(0, "a.x", impl.WyName, 0))})
	wantDeeds(t, "each its own", holdsAX(), append(two, done(replyBy(0, 1)), deed{checkOf(0), impl.EoOpen}, done(checkOf(1)), deed{checkOf(0), impl.EoOpen}), 1)
}

func TestTokensThatAreLaid(t *testing.T) {
	orders := func(how int64) []deed {
		return []deed{done(orderBy(1, "a.x", how)), done(orderBy(0, "a.x", how)), done(orderBy(2, "b.x", how))}
	}
	holds := []impl.Hold{{Host: "a.x", Party: 0}, {Host: "b.x", Party: 2}}
	for how := int64(1); how <= 2; how++ {
		run := func(why string, deeds []deed, issued ...int64) {
			t.Helper()
			wantDeeds(t, why, holds, append(orders(how), deeds...), issued...)
		}
		other := 3 - how
		run("for another party", []deed{done(placeBy(0, "a.x", how, 0)), {checkOf(1), impl.EoOpen}, done(checkOf(0)), notDone(checkOf(0))}, 0)
		run("for itself", []deed{done(placeBy(0, "a.x", how, 1)), {checkOf(0), impl.EoOpen}, done(checkOf(1))}, 1)
		run("without control", []deed{notDone(placeBy(1, "a.x", how, 0)), notDone(placeBy(2, "a.x", how, 2)), {checkOf(0), impl.EoOpen}, {checkOf(2), impl.EoOpen}})
		run("of an order for another host", []deed{done(placeBy(0, "a.x", how, 2)), {checkOf(2), impl.EoOpen}, {checkOf(0), impl.EoOpen}})
		run("at another host", []deed{done(placeBy(2, "b.x", how, 0)), {checkOf(0), impl.EoOpen}, {checkOf(2), impl.EoOpen}})
		run("by another way", []deed{done(placeBy(0, "a.x", other, 0)), {checkOf(0), impl.EoOpen}})
		run("by both ways", []deed{done(placeBy(0, "a.x", other, 1)), done(placeBy(0, "a.x", how, 0)), {checkOf(1), impl.EoOpen}, done(checkOf(0))}, 0)
		run("laid anew", []deed{done(placeBy(0, "a.x", how, 0)), done(placeBy(0, "a.x", how, 1)), {checkOf(0), impl.EoOpen}, done(checkOf(1))}, 1)
		run("laid anew and back", []deed{done(placeBy(0, "a.x", how, 0)), done(placeBy(0, "a.x", how, 1)), done(placeBy(0, "a.x", how, 0)), {checkOf(1), impl.EoOpen}, done(checkOf(0))}, 0)
		run("one behind the other", []deed{done(placeBy(0, "a.x", how, 0)), done(checkOf(0)), done(placeBy(0, "a.x", how, 1)), done(checkOf(1))}, 0, 1)
		run("what can't be lays nothing", []deed{done(placeBy(0, "a.x", how, 0)), notDone(placeBy(1, "a.x", how, 1)), notDone(placeBy(0, "a.x", how, 3)), done(checkOf(0))}, 0)
		run("of an order that is closed", []deed{done(placeBy(0, "a.x", how, 0)), done(checkOf(0)), done(placeBy(0, "a.x", how, 0)), notDone(checkOf(0)), {checkOf(1), impl.EoOpen}}, 0)
		run("it lies on", []deed{done(placeBy(0, "a.x", how, 1)), done(tickBy(49)), done(checkOf(1)), {checkOf(0), impl.EoOpen}}, 1)
	}
	for _, how := range append(farNumbers(), 0, 3, 4) {
		wantDeeds(t, "no way to lay", holds, append(orders(impl.WyMail), notDone(placeBy(0, "a.x", how, 0)), deed{checkOf(0), impl.EoOpen}))
	}
	for _, host := range []string{"", "*.a.x", "*", "A", "x", "b.a.x", "c.x"} {
		wantDeeds(t, host, holds, append(orders(impl.WyName), notDone(placeBy(0, host, impl.WyName, 0))))
	}
}

func TestWildOrders(t *testing.T) {
	holds := []impl.Hold{{Host: "a.x", Party: 0}, {Host: "b.a.x", Party: 2}}
	wild := []deed{done(orderBy(1, "*.a.x", impl.WyName))}
	run := func(why string, deeds []deed, issued ...int64) {
		t.Helper()
		wantDeeds(t, why, holds, append(slices.Clone(wild), deeds...), issued...)
	}
	run("at its base", []deed{done(placeBy(0, "a.x", impl.WyName, 0)), done(checkOf(0))}, 0)
	run("below its base", []deed{done(placeBy(2, "b.a.x", impl.WyName, 0)), {checkOf(0), impl.EoOpen}})
	run("above its base", []deed{done(giveTo(1, "x")), done(placeBy(1, "x", impl.WyName, 0)), {checkOf(0), impl.EoOpen}})
	run("by another way", []deed{done(placeBy(0, "a.x", impl.WyAddr, 0)), {checkOf(0), impl.EoOpen}})
	run("at a wild host", []deed{notDone(placeBy(0, "*.a.x", impl.WyName, 0)), {checkOf(0), impl.EoOpen}})
	run("beside one that is not wild", []deed{done(orderBy(1, "a.x", impl.WyName)), done(placeBy(0, "a.x", impl.WyName, 1)), {checkOf(0), impl.EoOpen}, done(checkOf(1))}, 1)
	run("by mail it is not answered", []deed{done(powerOf(1, "a.x", impl.WyMail)), notDone(replyBy(1, 0)), {checkOf(0), impl.EoOpen}})
	run("given away", []deed{done(placeBy(0, "a.x", impl.WyName, 0)), done(giveTo(1, "a.x")), {checkOf(0), impl.EoOpen}})
	got := wantDeeds(t, "its Host is told whole", holds, append(wild, done(placeBy(0, "a.x", impl.WyName, 0)), done(tickBy(3)), done(checkOf(0))), 0)
	if !slices.Equal(got.Issued, []impl.Issued{{Party: 1, Host: "*.a.x", At: 3, Order: 0}}) {
		t.Error(got)
	}
}

func TestPowersOverAHost(t *testing.T) {
	for how := int64(1); how <= 3; how++ {
		// shows lets the order 0 of the party 1 be by the way, as somebody who has to control the host.
		shows := placeBy(1, "a.x", how, 0)
		if how == impl.WyMail {
			shows = replyBy(1, 0)
		}
		first := []deed{done(orderBy(1, "a.x", how)), notDone(shows)}
		run := func(why string, deeds []deed, issued ...int64) {
			t.Helper()
			wantDeeds(t, why, holdsAX(), append(slices.Clone(first), deeds...), issued...)
		}
		mine, open := powerOf(1, "a.x", how), deed{checkOf(0), impl.EoOpen}
		run("given", []deed{done(mine), open, done(shows), done(checkOf(0))}, 0)
		run("given twice, lost once", []deed{done(mine), done(mine), done(loseOf(1, "a.x", how)), notDone(shows), open})
		run("lost ahead", []deed{done(mine), done(loseOf(1, "a.x", how)), notDone(shows), open})
		run("lost behind", []deed{done(mine), done(shows), done(loseOf(1, "a.x", how)), open, notDone(shows), open})
		run("lost behind, and had again", []deed{done(mine), done(shows), done(loseOf(1, "a.x", how)), done(mine), open, done(shows), done(checkOf(0))}, 0)
		run("lost when it is issued", []deed{done(mine), done(shows), done(checkOf(0)), done(loseOf(1, "a.x", how)), notDone(checkOf(0))}, 0)
		run("gone with EoGive", []deed{done(mine), done(giveTo(2, "a.x")), notDone(shows), open})
		run("gone with EoGive to the holder itself", []deed{done(mine), done(giveTo(0, "a.x")), notDone(shows), open})
		run("had behind EoGive", []deed{done(giveTo(2, "a.x")), done(mine), done(shows), done(checkOf(0))}, 0)
		run("shown ahead of EoGive", []deed{done(mine), done(shows), done(giveTo(2, "a.x")), open})
		run("given to who shows it", []deed{done(giveTo(1, "a.x")), done(shows), done(checkOf(0))}, 0)
		run("shown ahead of EoGive to itself", []deed{done(mine), done(shows), done(giveTo(1, "a.x")), open, done(shows), done(checkOf(0))}, 0)
		run("of another party", []deed{done(powerOf(2, "a.x", how)), notDone(shows), open})
		run("over another host", []deed{done(powerOf(1, "b.x", how)), done(powerOf(1, "x", how)), done(powerOf(1, "b.a.x", how)), notDone(shows), open})
		run("another host is given", []deed{done(mine), done(shows), done(giveTo(2, "b.x")), done(giveTo(2, "x")), done(checkOf(0))}, 0)
		for other := int64(1); other <= 3; other++ {
			if other != how {
				run("by another way", []deed{done(powerOf(1, "a.x", other)), notDone(shows), open})
				run("another way is lost", []deed{done(mine), done(powerOf(1, "a.x", other)), done(shows), done(loseOf(1, "a.x", other)), done(checkOf(0))}, 0)
			}
		}
		run("another one's is lost", []deed{done(mine), done(powerOf(2, "a.x", how)), done(shows), done(loseOf(2, "a.x", how)), done(checkOf(0))}, 0)
		run("another host's is lost", []deed{done(mine), done(shows), done(loseOf(1, "b.x", how)), done(loseOf(1, "x", how)), done(checkOf(0))}, 0)
		run("lost without having it", []deed{done(loseOf(1, "a.x", how)), notDone(shows), open})
		for _, wrong := range append(farNumbers(), 0, 4) {
			run("no way", []deed{notDone(powerOf(1, "a.x", wrong)), notDone(loseOf(1, "a.x", wrong)), notDone(shows), open})
		}
		for _, host := range []string{"", "*.a.x", "*", "A", "a..x", hostLong(101)} {
			run("no host", []deed{notDone(powerOf(1, host, how)), notDone(loseOf(1, host, how)), notDone(giveTo(1, host)), notDone(shows), open})
		}
	}
}

func TestWhoLaidAToken(t *testing.T) {
	for how := int64(1); how <= 2; how++ {
		first := []deed{done(orderBy(3, "a.x", how)), done(powerOf(1, "a.x", how)), done(powerOf(2, "a.x", how))}
		run := func(why string, deeds []deed, issued ...int64) {
			t.Helper()
			wantDeeds(t, why, holdsAX(), append(slices.Clone(first), deeds...), issued...)
		}
		by := func(party int64) deed { return done(placeBy(party, "a.x", how, 0)) }
		lost := func(party int64) deed { return done(loseOf(party, "a.x", how)) }
		open := deed{checkOf(0), impl.EoOpen}
		run("the last one loses it", []deed{by(1), by(2), lost(2), open})
		run("the first one loses it", []deed{by(1), by(2), lost(1), done(checkOf(0))}, 0)
		run("laid by the holder behind who loses it", []deed{by(1), by(0), lost(1), done(checkOf(0))}, 0)
		run("laid by who loses it behind the holder", []deed{by(0), by(1), lost(1), open})
		run("laid by who loses it, then by another", []deed{by(1), lost(1), by(2), done(checkOf(0))}, 0)
		// Who holds the host has no power to lose, but what it laid by that way is gone all the same.
		run("laid by a holder that loses the power", []deed{by(0), lost(0), open, by(0), done(checkOf(0))}, 0)
		run("laid by a holder that is another one then", []deed{by(0), done(giveTo(4, "a.x")), open, notDone(placeBy(0, "a.x", how, 0)), by(4), done(checkOf(0))}, 0)
		run("given away and back", []deed{by(0), done(giveTo(4, "a.x")), done(giveTo(0, "a.x")), open})
	}
}

func TestAnswersByMail(t *testing.T) {
	holds := []impl.Hold{{Host: "a.x", Party: 0}, {Host: "b.x", Party: 0}}
	mail := func(party int64, host string) deed { return done(orderBy(party, host, impl.WyMail)) }
	open := func(n int64) deed { return deed{checkOf(n), impl.EoOpen} }
	run := func(why string, deeds []deed, issued ...int64) {
		t.Helper()
		wantDeeds(t, why, holds, deeds, issued...)
	}
	run("answered", []deed{mail(0, "a.x"), open(0), done(replyBy(0, 0)), done(checkOf(0)), notDone(checkOf(0)), notDone(replyBy(0, 0))}, 0)
	run("answered twice", []deed{mail(0, "a.x"), done(replyBy(0, 0)), done(replyBy(0, 0)), done(checkOf(0))}, 0)
	run("another one's order", []deed{mail(1, "a.x"), notDone(replyBy(0, 0)), notDone(replyBy(1, 0)), open(0)})
	run("another one's order, with power", []deed{mail(1, "a.x"), done(powerOf(2, "a.x", impl.WyMail)), notDone(replyBy(2, 0)), open(0)})
	run("no control", []deed{mail(1, "a.x"), notDone(replyBy(1, 0)), open(0)})
	run("control of another host", []deed{mail(0, "c.x"), notDone(replyBy(0, 0)), open(0)})
	for how := int64(1); how <= 2; how++ {
		run("by another way", []deed{done(orderBy(0, "a.x", how)), notDone(replyBy(0, 0)), {checkOf(0), impl.EoOpen}})
	}
	run("tokens don't count", []deed{mail(0, "a.x"), done(placeBy(0, "a.x", impl.WyName, 0)), done(placeBy(0, "a.x", impl.WyAddr, 0)), open(0)})
	run("behind EoGive", []deed{mail(0, "a.x"), done(replyBy(0, 0)), done(giveTo(1, "a.x")), open(0), notDone(replyBy(0, 0)), done(giveTo(0, "a.x")), open(0), done(replyBy(0, 0)), done(checkOf(0))}, 0)
	run("another host is given", []deed{mail(0, "a.x"), mail(0, "b.x"), done(replyBy(0, 0)), done(replyBy(0, 1)), done(giveTo(1, "b.x")), done(checkOf(0)), open(1)}, 0)
	run("all of a host are gone with EoGive", []deed{
		mail(0, "a.x"), mail(1, "a.x"), done(powerOf(1, "a.x", impl.WyMail)), done(replyBy(0, 0)), done(replyBy(1, 1)), done(giveTo(2, "a.x")), open(0), open(1),
	})
	run("EoLose takes but its own", []deed{
		mail(0, "a.x"), mail(1, "a.x"), mail(1, "a.x"), mail(1, "b.x"), done(powerOf(1, "a.x", impl.WyMail)), done(powerOf(1, "b.x", impl.WyMail)),
		done(replyBy(0, 0)), done(replyBy(1, 1)), done(replyBy(1, 2)), done(replyBy(1, 3)), done(loseOf(1, "a.x", impl.WyMail)),
		open(1), open(2), done(checkOf(3)), done(checkOf(0)),
	}, 3, 0)
	run("EoLose by another way", []deed{
		mail(1, "a.x"), done(powerOf(1, "a.x", impl.WyMail)), done(replyBy(1, 0)), done(loseOf(1, "a.x", impl.WyName)), done(loseOf(1, "a.x", impl.WyAddr)), done(checkOf(0)),
	}, 0)
	run("EoLose of another party", []deed{mail(0, "a.x"), done(replyBy(0, 0)), done(loseOf(1, "a.x", impl.WyMail)), done(checkOf(0))}, 0)
	run("EoLose of the holder", []deed{mail(0, "a.x"), done(replyBy(0, 0)), done(loseOf(0, "a.x", impl.WyMail)), open(0), done(replyBy(0, 0)), done(checkOf(0))}, 0)
	run("answered, but too late looked at", []deed{mail(0, "a.x"), done(replyBy(0, 0)), done(tickBy(50)), {checkOf(0), impl.EoRate}, notDone(checkOf(0))})
}

func TestTheClock(t *testing.T) {
	for _, n := range []int64{0, 1, 999, 1000} {
		if got := wantDeeds(t, "moves on", nil, []deed{done(tickBy(n)), done(tickBy(n))}); got.Now != 2*n {
			t.Error(n, got)
		}
	}
	for _, n := range append(farNumbers(), -1, 1001, 1002) {
		if got := wantDeeds(t, "stays", nil, []deed{done(tickBy(5)), notDone(tickBy(n)), done(tickBy(1))}); got.Now != 6 {
			t.Error(n, got)
		}
	}
	// What an op has in fields that its kind does not name counts for nothing.
	tick := impl.EnOp{Kind: impl.EoTick, Party: -9, Host: "*", How: 77, N: 3}
	check := impl.EnOp{Kind: impl.EoCheck, Party: 99, Host: "*", How: -1, N: 0}
	reply := impl.EnOp{Kind: impl.EoReply, Party: 0, Host: "*", How: 77, N: 0}
	give := impl.EnOp{Kind: impl.EoGive, Party: 1, Host: "a.x", How: 77, N: -8}
	order := impl.EnOp{Kind: impl.EoOrder, Party: 0, Host: "a.x", How: impl.WyMail, N: -8}
	got := wantDeeds(t, "other fields", holdsAX(), []deed{done(order), done(tick), done(reply), done(check), done(give), notDone(replyBy(0, 0))}, 0)
	if got.Now != 3 {
		t.Error(got)
	}
}

func TestALongRun(t *testing.T) {
	var deeds []deed
	var want []impl.Issued
	for i := range int64(20) {
		party := i % 6
		deeds = append(deeds, done(orderBy(party, "a.x", impl.WyName)), done(placeBy(0, "a.x", impl.WyName, i)), done(tickBy(34)), done(checkOf(i)), notDone(checkOf(i)))
		want = append(want, impl.Issued{Party: party, Host: "a.x", At: 34 * (i + 1), Order: i})
	}
	got := wantDeeds(t, "long", holdsAX(), deeds, upToNumber(20)...)
	if !slices.Equal(got.Issued, want) || got.Now != 680 || len(got.Codes) != 100 {
		t.Error(got)
	}
}

func upToNumber(count int64) []int64 {
	var out []int64
	for n := range count {
		out = append(out, n)
	}
	return out
}

// wantPromised holds a run to promise 21: whatever was issued, somebody who controls its base then had let it be.
func wantPromised(t *testing.T, holds []impl.Hold, ops []impl.EnOp, got impl.EnReport) {
	t.Helper()
	p := enrolPast{holds: holds, ops: ops, codes: got.Codes}
	issued := 0
	for i, op := range ops {
		if op.Kind != impl.EoCheck || got.Codes[i] != impl.EoOK {
			continue
		}
		then := p.until(i)
		o, there := then.orderAt(op.N)
		let := o.Party
		if o.How != impl.WyMail {
			by, lies := then.lies(o.base(), o.How)
			let, there = by.Party, there && lies && by.N == op.N
		} else {
			there = there && then.answered(op.N)
		}
		if !there || !then.controls(let, o.base(), o.How) || then.age(o) >= 50 {
			t.Error("issued, though nobody let it be", holds, ops, i)
		}
		if x := got.Issued[issued]; x != (impl.Issued{Party: o.Party, Host: o.Host, At: then.clock(), Order: op.N}) {
			t.Error("issued as", x, "order", o)
		}
		issued++
	}
	if issued != len(got.Issued) {
		t.Error("issued", got.Issued)
	}
	for party := range int64(6) {
		var times []int64
		for _, o := range p.orders() {
			if o.Party == party {
				times = append(times, p.until(o.ahead).clock())
			}
		}
		for i := 3; i < len(times); i++ {
			if times[i]-times[i-3] < 100 {
				t.Error("too many orders of", party, times)
			}
		}
	}
}

func TestAnyRunOfEnrolment(t *testing.T) {
	r := rand.New(rand.NewSource(201))
	seen := map[[2]int64]int{}
	issued := 0
	for range 3000 {
		holds, ops := anyDeeds(r, oneOf(r, 100, 100, r.Intn(101)))
		got, ok := impl.Enrol(holds, ops)
		want, _ := slowEnrol(holds, ops)
		if !ok || !sameReport(got, want) {
			t.Fatal(holds, ops, "got", got, ok, "want", want)
		}
		wantPromised(t, holds, ops, got)
		issued += len(got.Issued)
		for i, op := range ops {
			seen[[2]int64{op.Kind, got.Codes[i]}]++
		}
	}
	// Each kind has had each code that it may have.
	for _, row := range [][]int64{
		{impl.EoOrder, impl.EoOK, impl.EoNo, impl.EoRate, impl.EoWild}, {impl.EoPlace, impl.EoOK, impl.EoNo}, {impl.EoReply, impl.EoOK, impl.EoNo},
		{impl.EoCheck, impl.EoOK, impl.EoNo, impl.EoRate, impl.EoOpen}, {impl.EoGive, impl.EoOK, impl.EoNo}, {impl.EoPower, impl.EoOK, impl.EoNo},
		{impl.EoLose, impl.EoOK, impl.EoNo}, {impl.EoTick, impl.EoOK, impl.EoNo}, {0, impl.EoNo}, {9, impl.EoNo}, {-1, impl.EoNo},
	} {
		for _, code := range row[1:] {
			if seen[[2]int64{row[0], code}] < 50 {
				t.Error("kind", row[0], "code", code, "was met", seen[[2]int64{row[0], code}], "times")
			}
		}
	}
	if issued < 3000 {
		t.Error("little was issued:", issued)
	}
}

// A beginning of a run is told as the run tells it.
func TestBeginningsOfRuns(t *testing.T) {
	r := rand.New(rand.NewSource(202))
	for range 100 {
		holds, ops := anyDeeds(r, 40)
		all, _ := impl.Enrol(holds, ops)
		for count := range ops {
			got, ok := impl.Enrol(holds, ops[:count])
			if !ok || !slices.Equal(got.Codes, all.Codes[:count]) || !slices.Equal(got.Issued, all.Issued[:len(got.Issued)]) {
				t.Fatal(holds, ops[:count], got, ok)
			}
		}
	}
}
