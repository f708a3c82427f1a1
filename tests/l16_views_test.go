package tests

import (
	"math"
	"math/rand"
	"runtime"
	"slices"
	"sync"
	"testing"
	"time"

	"loop.example/g00041/impl"
)

// wantCaught holds Views to telling, behind the steps, whether the log is caught, and by the last one alone.
func wantCaught(t *testing.T, why string, want bool, ops ...impl.ViewOp) {
	t.Helper()
	out, ok := impl.Views(ops)
	if !ok || len(out) != len(ops) {
		t.Fatal(why, "got", out, ok)
	}
	for i, obs := range out {
		if expected := want && i == len(ops)-1; obs.Code != impl.VoOK || obs.Caught != expected {
			t.Error(why, "at", i, "got", obs, "want", expected)
		}
	}
	if slow, _ := slowViews(ops); !slices.Equal(out, slow) {
		t.Error(why, "the slow reading says", slow)
	}
}

// grow puts so many digests behind a view, the same each time.
func grow(view int64, from int, to int) []impl.ViewOp {
	var out []impl.ViewOp
	for _, digest := range logRow(to)[from:] {
		out = append(out, addTo(view, digest))
	}
	return out
}

func opsOf(parts ...any) []impl.ViewOp {
	var out []impl.ViewOp
	for _, part := range parts {
		switch x := part.(type) {
		case impl.ViewOp:
			out = append(out, x)
		case []impl.ViewOp:
			out = append(out, x...)
		}
	}
	return out
}

func TestViewsOfAHonestLog(t *testing.T) {
	wantCaught(t, "no steps", false)
	wantCaught(t, "shown and shown again", false, opsOf(grow(0, 0, 3), showTo(0, 0), showTo(0, 0), showTo(0, 1), meetOf(0, 1), meetOf(1, 0))...)
	wantCaught(t, "shown as it grows", false, opsOf(grow(0, 0, 1), showTo(0, 0), grow(0, 1, 2), showTo(0, 0), showTo(0, 1), grow(0, 2, 7), showTo(0, 0), meetOf(0, 1), meetOf(1, 0), showTo(0, 1), meetOf(0, 1))...)
	wantCaught(t, "met as it grows", false, opsOf(grow(0, 0, 4), showTo(0, 0), grow(0, 4, 9), showTo(0, 1), grow(0, 9, 16), meetOf(0, 1), showTo(0, 2), grow(0, 16, 17), meetOf(1, 2), meetOf(2, 0))...)
	wantCaught(t, "a copy that grows as it does", false, opsOf(grow(0, 0, 4), showTo(0, 0), copyTo(0, 1), grow(1, 4, 6), showTo(1, 1), meetOf(0, 1), showTo(1, 0), meetOf(1, 0))...)
	wantCaught(t, "out of another view that is the same", false, opsOf(grow(0, 0, 5), grow(1, 0, 5), showTo(0, 0), showTo(1, 0), showTo(1, 1), meetOf(0, 1))...)
	for m := 1; m < 40; m += 3 {
		for n := m; n < 40; n += 5 {
			wantCaught(t, "each beginning", false, opsOf(grow(3, 0, m), showTo(3, 3), grow(3, m, n), showTo(3, 0), meetOf(0, 3), meetOf(3, 0), showTo(3, 3))...)
		}
	}
}

func TestViewsOfALogThatTellsUnlikeThings(t *testing.T) {
	wantCaught(t, "another past is shown", true, opsOf(addTo(0, 5), showTo(0, 0), addTo(1, 6), showTo(1, 0))...)
	wantCaught(t, "an older one is shown", true, opsOf(grow(0, 0, 3), copyTo(0, 1), grow(0, 3, 5), showTo(0, 0), showTo(1, 0))...)
	wantCaught(t, "another past is shown, and longer", true, opsOf(grow(0, 0, 3), showTo(0, 2), addTo(1, 9), grow(1, 1, 7), showTo(1, 2))...)
	wantCaught(t, "another last digest is shown", true, opsOf(grow(0, 0, 3), showTo(0, 2), grow(1, 0, 2), addTo(1, 9), showTo(1, 2))...)
	wantCaught(t, "two of the same Size meet", true, opsOf(addTo(0, 5), showTo(0, 0), addTo(1, 6), showTo(1, 1), meetOf(0, 1))...)
	wantCaught(t, "two of the same Size meet, the other asking", true, opsOf(addTo(0, 5), showTo(0, 0), addTo(1, 6), showTo(1, 1), meetOf(1, 0))...)
	for m := 1; m < 20; m += 2 {
		for n := m; n < 20; n += 3 {
			for at := 0; at < m; at += 4 {
				bent := grow(1, 0, n)
				bent[at].X ^= 1
				wantCaught(t, "two of unlike pasts meet", true, opsOf(grow(0, 0, m), showTo(0, 0), bent, showTo(1, 1), meetOf(0, 1))...)
				wantCaught(t, "the longer one first", true, opsOf(grow(0, 0, m), showTo(0, 0), bent, showTo(1, 1), meetOf(1, 0))...)
			}
		}
	}
}

func TestMeetingsThatTellNothing(t *testing.T) {
	wantCaught(t, "nobody knows anything", false, meetOf(0, 1), meetOf(2, 2))
	wantCaught(t, "one knows nothing", false, addTo(0, 5), showTo(0, 0), meetOf(0, 1), meetOf(1, 0))
	wantCaught(t, "with itself", false, addTo(0, 5), showTo(0, 0), meetOf(0, 0), addTo(0, 6), meetOf(0, 0), showTo(0, 0), meetOf(0, 0))
	wantCaught(t, "an empty view shows nothing", false, showTo(2, 0), addTo(0, 5), showTo(0, 0), showTo(2, 0), meetOf(0, 0), showTo(0, 1), meetOf(0, 1))
	wantCaught(t, "an empty view makes nobody forget", true, addTo(0, 5), showTo(0, 0), showTo(2, 0), addTo(1, 6), showTo(1, 0))
	wantCaught(t, "a view is nobody's own", false, addTo(0, 5), addTo(1, 6), showTo(0, 1), meetOf(0, 1), showTo(1, 0))
}

// The log answers out of a view as it is by now.
func TestViewsThatWereCopiedOver(t *testing.T) {
	shown := opsOf(grow(0, 0, 3), showTo(0, 0), grow(0, 3, 6), showTo(0, 1))
	wantCaught(t, "as it was", false, opsOf(shown, meetOf(0, 1))...)
	wantCaught(t, "by a shorter one that begins it", true, opsOf(shown, grow(2, 0, 5), copyTo(2, 0), meetOf(0, 1))...)
	wantCaught(t, "by an empty one", true, opsOf(shown, copyTo(2, 0), meetOf(1, 0))...)
	wantCaught(t, "by one as short as the other knows", true, opsOf(shown, grow(2, 0, 3), copyTo(2, 0), meetOf(0, 1))...)
	wantCaught(t, "by one of the same", false, opsOf(shown, grow(2, 0, 6), copyTo(2, 0), meetOf(0, 1))...)
	wantCaught(t, "by a longer one that goes on", false, opsOf(shown, grow(2, 0, 11), copyTo(2, 0), meetOf(0, 1))...)
	wantCaught(t, "by itself", false, opsOf(shown, copyTo(0, 0), meetOf(0, 1))...)
	wantCaught(t, "over another view", false, opsOf(shown, grow(2, 0, 1), copyTo(2, 1), meetOf(0, 1))...)
	bent := grow(2, 0, 11)
	bent[4].X ^= 1
	wantCaught(t, "by a longer one of another past", true, opsOf(shown, bent, copyTo(2, 0), meetOf(0, 1))...)
	bent = grow(2, 0, 11)
	bent[8].X ^= 1
	wantCaught(t, "by a longer one that is another behind what was shown", false, opsOf(shown, bent, copyTo(2, 0), meetOf(0, 1))...)
	alike := opsOf(grow(0, 0, 4), showTo(0, 0), showTo(0, 1))
	wantCaught(t, "two alike, by a shorter one", true, opsOf(alike, grow(2, 0, 3), copyTo(2, 0), meetOf(0, 1))...)
	wantCaught(t, "one with itself, by a shorter one", true, opsOf(alike, grow(2, 0, 3), copyTo(2, 0), meetOf(1, 1))...)
	wantCaught(t, "two alike, by one of another past, of which nothing is asked", false, opsOf(alike, bent, copyTo(2, 0), meetOf(0, 1))...)
	wantCaught(t, "a copy stays when the view grows", true, opsOf(alike, copyTo(0, 1), grow(0, 4, 6), showTo(0, 0), showTo(1, 0))...)
	wantCaught(t, "a view stays when its copy grows", false, opsOf(alike, copyTo(0, 1), addTo(1, 9), grow(0, 4, 6), showTo(0, 0), showTo(0, 1), meetOf(0, 1))...)
}

// Of two that know as much, A asks: the log answers out of the view that A was shown.
func TestWhoAsksTheLog(t *testing.T) {
	ops := opsOf(grow(0, 0, 4), grow(1, 0, 4), showTo(0, 0), showTo(1, 1), copyTo(3, 1))
	wantCaught(t, "A asks", false, opsOf(ops, meetOf(0, 1))...)
	wantCaught(t, "A asks, whose view is gone", true, opsOf(ops, meetOf(1, 0))...)
	ops = opsOf(grow(0, 0, 4), showTo(0, 0), grow(1, 0, 5), showTo(1, 1), copyTo(3, 0))
	wantCaught(t, "the greater one asks", false, opsOf(ops, meetOf(0, 1), meetOf(1, 0))...)
	ops = opsOf(grow(0, 0, 4), showTo(0, 0), grow(1, 0, 5), showTo(1, 1), copyTo(3, 1))
	wantCaught(t, "the greater one asks, whose view is gone", true, opsOf(ops, meetOf(0, 1))...)
	ops = opsOf(grow(0, 0, 4), showTo(0, 0), copyTo(0, 2), showTo(2, 0), copyTo(3, 0))
	wantCaught(t, "out of the view that was shown last", false, opsOf(ops, showTo(2, 1), meetOf(0, 1))...)
	ops = opsOf(grow(0, 0, 4), showTo(0, 0), copyTo(0, 2), showTo(2, 0), copyTo(3, 2))
	wantCaught(t, "out of the view that was shown last, which is gone", true, opsOf(ops, showTo(0, 1), meetOf(0, 1))...)
}

func TestEachKindOfStepAtItsPlaces(t *testing.T) {
	places := []int64{math.MinInt64, -1, 0, 1, 3, 4, 5, math.MaxInt64}
	for _, kind := range []int64{math.MinInt64, -1, 0, impl.VwAdd, impl.VwCopy, impl.VwShow, impl.VwMeet, 5, 6, math.MaxInt64} {
		for _, a := range places {
			for _, b := range places {
				want := impl.ViewObs{}
				if !within(a, 0, 3) || !within(b, 0, 3) || !within(kind, 1, 4) {
					want.Code = impl.VoNo
				}
				step := impl.ViewOp{Kind: kind, A: a, B: b, X: 9}
				out, ok := impl.Views([]impl.ViewOp{step})
				if !ok || len(out) != 1 || out[0] != want {
					t.Error(step, "got", out, ok)
				}
				caught := opsOf(addTo(0, 5), showTo(0, 0), addTo(1, 6), showTo(1, 0))
				want.Caught = true
				if out, ok = impl.Views(append(caught, step)); !ok || len(out) != 5 || out[4] != want {
					t.Error(step, "of a log that is caught: got", out, ok)
				}
			}
		}
	}
}

// A step that is refused does nothing: what comes behind it is as it would be without it.
func TestStepsThatAreRefusedDoNothing(t *testing.T) {
	ahead := opsOf(grow(0, 0, 3), showTo(0, 0), addTo(1, 9), showTo(1, 1), grow(3, 0, 2))
	behind := opsOf(showTo(0, 0), showTo(1, 1), showTo(0, 2), grow(3, 2, 3), showTo(3, 0), grow(0, 3, 4), showTo(0, 2), meetOf(0, 2), meetOf(0, 3), meetOf(0, 1))
	want, _ := impl.Views(opsOf(ahead, behind))
	if want[len(want)-2].Caught || !want[len(want)-1].Caught {
		t.Fatal("what is told without it", want)
	}
	for kind := int64(-1); kind <= 6; kind++ {
		for _, place := range [][2]int64{{-1, 0}, {4, 0}, {0, -1}, {0, 4}, {1, 4}, {3, -1}, {4, 4}, {-1, -1}, {0, 1}, {1, 0}} {
			if within(kind, 1, 4) && within(place[0], 0, 3) && within(place[1], 0, 3) {
				continue
			}
			step := impl.ViewOp{Kind: kind, A: place[0], B: place[1], X: 77}
			out, ok := impl.Views(opsOf(ahead, step, behind))
			if !ok || out[len(ahead)] != (impl.ViewObs{Code: impl.VoNo}) || !slices.Equal(slices.Delete(slices.Clone(out), len(ahead), len(ahead)+1), want) {
				t.Error(step, "got", out, ok)
			}
		}
	}
}

func TestAsManyStepsAsMayBe(t *testing.T) {
	for _, n := range []int{0, 1, 99, 100} {
		ops := grow(2, 0, n)
		if n > 1 {
			ops[n-1] = showTo(2, 3)
		}
		wantCaught(t, "so many steps", false, ops...)
	}
	for _, ops := range [][]impl.ViewOp{grow(2, 0, 101), make([]impl.ViewOp, 101), make([]impl.ViewOp, 40000)} {
		if out, ok := impl.Views(ops); ok || len(out) != 0 {
			t.Error(len(ops), "got", out, ok)
		}
	}
	// No view gets to MaxLog in so few steps: a hundred digests are the most, and none of them is refused.
	out, ok := impl.Views(grow(0, 0, 100))
	if !ok || slices.ContainsFunc(out, func(o impl.ViewObs) bool { return o != impl.ViewObs{} }) {
		t.Error("a hundred digests", out, ok)
	}
	wantCaught(t, "a long view and what it was", false, opsOf(grow(0, 0, 64), showTo(0, 0), grow(0, 64, 96), showTo(0, 1), meetOf(0, 1))...)
	bent := grow(1, 0, 50)
	bent[20].X ^= 1
	wantCaught(t, "two long views of unlike pasts", true, opsOf(grow(0, 0, 45), showTo(0, 0), bent, showTo(1, 1), meetOf(0, 1))...)
}

func anyOp(r *rand.Rand) impl.ViewOp {
	op := impl.ViewOp{
		Kind: oneOf(r, impl.VwAdd, impl.VwAdd, impl.VwAdd, impl.VwShow, impl.VwShow, impl.VwMeet, impl.VwMeet, impl.VwCopy, r.Int63n(7)-1),
		A:    r.Int63n(4), B: r.Int63n(4), X: r.Uint64() % 2,
	}
	if r.Intn(30) == 0 {
		op.A, op.B = r.Int63n(6)-1, r.Int63n(6)-1
	}
	return op
}

func TestAnyViews(t *testing.T) {
	r := rand.New(rand.NewSource(164))
	caughtAt := map[int]int{}
	for range 6000 {
		var ops []impl.ViewOp
		for range r.Intn(oneOf(r, 12, 30, 101)) {
			ops = append(ops, anyOp(r))
		}
		got, ok := impl.Views(ops)
		want, wantOk := slowViews(ops)
		if ok != wantOk || !slices.Equal(got, want) {
			t.Fatal(ops, "got", got, ok, "want", want)
		}
		at := slices.IndexFunc(got, func(o impl.ViewObs) bool { return o.Caught })
		if at >= 0 {
			caughtAt[int(ops[at].Kind)]++
		} else {
			caughtAt[-1]++
		}
	}
	if caughtAt[impl.VwShow] < 300 || caughtAt[impl.VwMeet] < 300 || caughtAt[-1] < 300 || len(caughtAt) != 3 {
		t.Error("too few of some", caughtAt)
	}
}

func begins(short []uint64, long []uint64) bool {
	return len(short) <= len(long) && slices.Equal(short, long[:len(short)])
}

// What the parties saw as whole rows, which they do not know, says whether they must catch the log.
func TestWhoSawUnlikeRowsCatchesTheLog(t *testing.T) {
	r := rand.New(rand.NewSource(165))
	seen := map[string]int{}
	for range 6000 {
		var w viewRows
		var ops []impl.ViewOp
		for len(ops) < 40 && !w.caught {
			op := anyOp(r)
			op.Kind, op.A, op.B = oneOf[int64](r, impl.VwAdd, impl.VwAdd, impl.VwCopy, impl.VwShow, impl.VwShow, impl.VwMeet), r.Int63n(4), r.Int63n(4)
			before := w
			w.step(op)
			ops = append(ops, op)
			a, b := before.parties[op.A], before.parties[op.B]
			row := before.views[op.A]
			switch {
			case op.Kind == impl.VwShow && len(row) > 0:
				if w.caught == begins(b.seen, row) {
					t.Fatal("shown", row, "to who saw", b.seen, "caught:", w.caught)
				}
				seen["shown"]++
			case op.Kind == impl.VwMeet && a.size > 0 && b.size > 0 && !begins(a.seen, b.seen) && !begins(b.seen, a.seen):
				if !w.caught {
					t.Fatal("not caught:", a.seen, "and", b.seen)
				}
				seen["unlike"]++
			case op.Kind == impl.VwMeet && a.size > 0 && b.size > 0 && begins(a.seen, before.views[a.view]) && begins(b.seen, before.views[b.view]):
				if w.caught {
					t.Fatal("caught:", a.seen, "and", b.seen)
				}
				seen["alike"]++
			case op.Kind == impl.VwMeet && (a.size == 0 || b.size == 0) && w.caught:
				t.Fatal("who knows nothing caught the log")
			}
		}
		out, ok := impl.Views(ops)
		if !ok || out[len(out)-1].Caught != w.caught {
			t.Fatal("got", out, ok, "want", w.caught)
		}
	}
	if seen["shown"] < 500 || seen["unlike"] < 500 || seen["alike"] < 500 {
		t.Error("too few of some", seen)
	}
}

func TestALogThatOnlyGrowsIsNeverCaught(t *testing.T) {
	r := rand.New(rand.NewSource(166))
	for range 1500 {
		var ops []impl.ViewOp
		var sizes [4]int // of the views: beginnings of the first one, each of which only grows
		var knows [4]int
		for len(ops) < 100 {
			view, party := r.Int63n(4), r.Int63n(4)
			switch r.Intn(4) {
			case 0:
				ops = append(ops, addTo(0, impl.EntryHash(impl.PutNum(int64(sizes[0])))))
				sizes[0]++
			case 1:
				ops = append(ops, copyTo(0, view))
				sizes[view] = sizes[0]
			case 2:
				if sizes[view] >= knows[party] {
					ops = append(ops, showTo(view, party))
					knows[party] = max(knows[party], sizes[view])
				}
			case 3:
				ops = append(ops, meetOf(view, party))
			}
		}
		out, ok := impl.Views(ops)
		if !ok || slices.ContainsFunc(out, func(o impl.ViewObs) bool { return o != impl.ViewObs{} }) {
			t.Fatal(ops, "got", out, ok)
		}
	}
}

// All that a call began has ended when it answers, and calls at the same time do not know of one another.
func TestViewsLeaveNobodyBehind(t *testing.T) {
	before := runtime.NumGoroutine()
	r := rand.New(rand.NewSource(167))
	var lists [][]impl.ViewOp
	for range 40 {
		var ops []impl.ViewOp
		for range r.Intn(110) {
			ops = append(ops, anyOp(r))
		}
		lists = append(lists, ops)
	}
	bad := make([]int, len(lists))
	var group sync.WaitGroup
	for i, ops := range lists {
		group.Go(func() {
			for range 10 {
				got, ok := impl.Views(ops)
				if want, wantOk := slowViews(ops); ok != wantOk || !slices.Equal(got, want) {
					bad[i]++
				}
			}
		})
	}
	group.Wait()
	if slices.ContainsFunc(bad, func(n int) bool { return n > 0 }) {
		t.Error("calls at the same time answer otherwise", bad)
	}
	for range 100 {
		if runtime.NumGoroutine() <= before {
			return
		}
		time.Sleep(10 * time.Millisecond)
	}
	t.Error("left behind:", runtime.NumGoroutine()-before)
}
