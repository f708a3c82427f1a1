package tests

import (
	"math"
	"math/rand"
	"slices"
	"testing"

	"loop.example/g00041/impl"
)

func TestBuildingConstants(t *testing.T) {
	if impl.MaxPool != 14 || impl.BdNone != 1 || impl.BdBad != 2 {
		t.Error(impl.MaxPool, impl.BdNone, impl.BdBad)
	}
}

func wantLinks(t *testing.T, why string, pool []impl.Cert, anchors []impl.Anchor, want ...impl.Edge) {
	t.Helper()
	if got, ok := impl.Links(pool, anchors); !ok || !slices.Equal(got, want) {
		t.Error(why, "got", got, ok, "want", want)
	}
}

// sizeCases are pools and anchors about their limits, and whether they are right.
func sizeCases() []struct {
	why     string
	pool    []impl.Cert
	anchors []impl.Anchor
	want    bool
} {
	one := poolOf(tie{"r", 0, "a", 1})
	root := theRoot()
	noName, noKey, noBase, noTime := anchorOf("r", 0), anchorOf("r", 0), anchorOf("r", 0), anchorOf("r", 0)
	noName.Name, noKey.Key, noBase.Deny, noTime.Until = impl.Name{}, impl.Pub{}, gens(hostGen("*.a.b")), -1
	return []struct {
		why     string
		pool    []impl.Cert
		anchors []impl.Anchor
		want    bool
	}{
		{"one and one", one, root, true}, {"no certificates", nil, root, true}, {"an empty pool", []impl.Cert{}, root, true},
		{"MaxPool", slices.Repeat(one, 14), root, true}, {"one more", slices.Repeat(one, 15), root, false}, {"many", slices.Repeat(one, 4000), root, false},
		{"one more, none of them right", make([]impl.Cert, 15), root, false}, {"MaxPool, none of them right", make([]impl.Cert, 14), root, true},
		{"no anchors", one, nil, false}, {"an empty list of anchors", one, []impl.Anchor{}, false}, {"no anchors and no pool", nil, nil, false},
		{"6 anchors", one, slices.Repeat(root, 6), true}, {"7 anchors", one, slices.Repeat(root, 7), false}, {"many anchors", one, slices.Repeat(root, 4000), false},
		{"an anchor without a name", one, []impl.Anchor{noName}, false}, {"an anchor without a key", one, []impl.Anchor{root[0], noKey}, false}, {"an anchor with no base", one, []impl.Anchor{noBase, root[0]}, false},
		{"an anchor with no time", one, []impl.Anchor{root[0], noTime, root[0]}, false}, {"the last of 6 is not right", one, append(slices.Repeat(root, 5), impl.Anchor{}), false},
		{"an anchor is not right, and no pool", nil, []impl.Anchor{noKey}, false},
	}
}

func TestPoolsAndAnchorsAboutTheirLimits(t *testing.T) {
	for _, row := range sizeCases() {
		edges, ok := impl.Links(row.pool, row.anchors)
		if ok != row.want || !ok && len(edges) != 0 {
			t.Error(row.why, "got", edges, ok)
		}
		_, _, code := impl.Find(row.pool, row.anchors, 0, plainAsk())
		if wrong := !row.want || len(row.pool) == 0; (code == impl.BdBad) != wrong {
			t.Error(row.why, "Find says", code)
		}
	}
}

func TestLinksOfAFewCertificates(t *testing.T) {
	anchors := []impl.Anchor{anchorOf("r", 0), anchorOf("s", 5), anchorOf("R", 0)}
	pool := poolOf(tie{"a", 1, "b", 2}, tie{"r", 0, "a", 1}, tie{"s", 5, "a", 1}, tie{"r", 0, "a", 3}, tie{"b", 2, "r", 0})
	wantLinks(t, "the order is that of Below, then of Above", pool, anchors,
		impl.Edge{Above: 1, Below: 0}, impl.Edge{Above: 2, Below: 0},
		impl.Edge{Above: -3, Below: 1}, impl.Edge{Above: -1, Below: 1}, impl.Edge{Above: 4, Below: 1},
		impl.Edge{Above: -2, Below: 2},
		impl.Edge{Above: -3, Below: 3}, impl.Edge{Above: -1, Below: 3}, impl.Edge{Above: 4, Below: 3},
		impl.Edge{Above: 0, Below: 4})
	wantLinks(t, "no pool", nil, anchors)
	wantLinks(t, "none is tied", pool[:1], anchors)
}

func TestLinksAskForNameAndKey(t *testing.T) {
	wantLinks(t, "another key", poolOf(tie{"a", 4, "b", 2}, tie{"r", 4, "a", 1}), theRoot())
	wantLinks(t, "another name", poolOf(tie{"q", 1, "b", 2}, tie{"s", 0, "a", 1}), theRoot())
	wantLinks(t, "the name is written otherwise", poolOf(tie{" A ", 1, "b", 2}, tie{"R", 0, "a", 1}), theRoot(), impl.Edge{Above: 1, Below: 0}, impl.Edge{Above: -1, Below: 1})
	ends := poolOf(tie{"a", 1, "b", 2}, tie{"r", 0, "a", 1})
	ends[1] = tie{"r", 0, "a", 1}.cert(2, false)
	wantLinks(t, "whoever issued it need be no authority", ends, theRoot(), impl.Edge{Above: 1, Below: 0}, impl.Edge{Above: -1, Below: 1})
	ends[1].To = 0
	wantLinks(t, "not right, above and below", ends, theRoot())
}

func TestLinksOfWhatIssuedItself(t *testing.T) {
	self := tie{"a", 1, "a", 1}.cert(1, true)
	wantLinks(t, "it is no other one", []impl.Cert{self}, theRoot())
	wantLinks(t, "the same one twice", []impl.Cert{self, self}, theRoot(), impl.Edge{Above: 1, Below: 0}, impl.Edge{Above: 0, Below: 1})
	wantLinks(t, "another with its name and key", []impl.Cert{self, tie{"r", 0, "a", 1}.cert(2, true)}, theRoot(), impl.Edge{Above: 1, Below: 0}, impl.Edge{Above: -1, Below: 1})
	wantLinks(t, "it is the anchor's own", []impl.Cert{tie{"r", 0, "r", 0}.cert(2, true)}, theRoot(), impl.Edge{Above: -1, Below: 0})
}

func TestLinksOfCertificatesThatAreNotRight(t *testing.T) {
	for _, row := range certCases() {
		if row.want {
			continue
		}
		below := row.c
		below.Issuer = partsOf("r")
		below = signedWith(below, 0)
		above := signedWith(tie{"a", 1, "b", 2}.cert(3, false), 1)
		above.Issuer = row.c.Subject
		got, ok := impl.Links([]impl.Cert{below, above}, theRoot())
		if !ok || slices.ContainsFunc(got, func(e impl.Edge) bool { return e.Below == 0 || e.Above == 0 }) && !impl.CertOk(below) {
			t.Error(row.why, "got", got, ok)
		}
	}
}

func TestLinksOfAnyPool(t *testing.T) {
	r := rand.New(rand.NewSource(141))
	count := 0
	for range 300 {
		pool, anchors := anyPool(r, impl.MaxPool), anyAnchors(r, 6)
		want := slowEdges(pool, anchors)
		wantLinks(t, "any", pool, anchors, want...)
		count += len(want)
	}
	if count < 1000 {
		t.Error("too few edges", count)
	}
}

func TestTheShortestPathIsFound(t *testing.T) {
	pool := poolOf(tie{"a", 1, "t", 9}, tie{"b", 2, "a", 1}, tie{"c", 3, "b", 2}, tie{"r", 0, "c", 3}, tie{"r", 0, "b", 2}, tie{"r", 0, "a", 1}, tie{"r", 0, "t", 9})
	q := plainAsk()
	wantFound(t, "the target is below a", pool, theRoot(), 0, q, 0, 5, 0)
	wantFound(t, "without the shortest", pool[:5], theRoot(), 0, q, 0, 4, 1, 0)
	wantFound(t, "without the two shortest", pool[:4], theRoot(), 0, q, 0, 3, 2, 1, 0)
	wantNone(t, "without all", impl.BdNone, pool[:3], theRoot(), 0, q)
	q.Uses = 0
	wantFound(t, "another target", pool, theRoot(), 2, q, 0, 3, 2)
	wantFound(t, "one that the anchor issued", pool, theRoot(), 3, q, 0, 3)
	gone := plainAsk()
	gone.Lists = []impl.Crl{speaking(partsOf("r"), goneAt(pool[5].Serial, 5, 1))}
	wantFound(t, "the shortest has one that is gone", pool, theRoot(), 0, gone, 0, 4, 1, 0)
	gone.Lists[0].Entries = append(gone.Lists[0].Entries, goneAt(pool[4].Serial, 5, 1))
	wantFound(t, "the next too", pool, theRoot(), 0, gone, 0, 3, 2, 1, 0)
	gone.Lists[0].Entries = append(gone.Lists[0].Entries, goneAt(pool[3].Serial, 5, 1))
	wantNone(t, "all", impl.BdNone, pool, theRoot(), 0, gone)
}

func TestOfPathsOfOneLengthTheLeast(t *testing.T) {
	// Two authorities, b and c, each by two certificates; both issued a.
	pool := poolOf(tie{"a", 1, "t", 9}, tie{"r", 0, "c", 3}, tie{"c", 3, "a", 1}, tie{"b", 2, "a", 1}, tie{"r", 0, "b", 2}, tie{"r", 0, "c", 3})
	q := plainAsk()
	wantFound(t, "the least behind the target, then the least of all", pool, theRoot(), 0, q, 0, 1, 2, 0)
	pool[2], pool[3] = pool[3], pool[2]
	wantFound(t, "read from the target back, 2 is less than 3", pool, theRoot(), 0, q, 0, 4, 2, 0)
	late := copyCert(pool[4])
	late.To = pathAt - 1
	pool[4] = signedWith(late, 0)
	wantFound(t, "that one is over", pool, theRoot(), 0, q, 0, 1, 3, 0)
	late = copyCert(pool[1])
	late.To = pathAt - 1
	pool[1] = signedWith(late, 0)
	wantFound(t, "so is the first of c", pool, theRoot(), 0, q, 0, 5, 3, 0)
}

func TestTheLeastAnchor(t *testing.T) {
	pool := poolOf(tie{"a", 1, "t", 9}, tie{"r", 0, "a", 1}, tie{"s", 7, "a", 1})
	r, s := anchorOf("r", 0), anchorOf("s", 7)
	q := plainAsk()
	wantFound(t, "the same anchor over and over", pool, []impl.Anchor{s, r, r, r}, 0, q, 1, 1, 0)
	old := r
	old.Until = pathFrom - 1
	denies := r
	denies.Deny = gens(nameGen("t"))
	wantFound(t, "the first that accepts", pool, []impl.Anchor{old, denies, s, r, r, old}, 0, q, 3, 1, 0)
	wantFound(t, "the positions count ahead of the anchor", pool, []impl.Anchor{s, r}, 0, q, 1, 1, 0)
	wantFound(t, "another position, because no anchor accepts the first", pool, []impl.Anchor{denies, old, s}, 0, q, 2, 2, 0)
	wantNone(t, "none accepts", impl.BdNone, pool, []impl.Anchor{denies, old}, 0, q)
	pool = append(pool, tie{"s", 7, "t", 9}.cert(5, false))
	wantFound(t, "how long it is counts ahead of all", pool, []impl.Anchor{r, s}, 3, q, 1, 3)
}

// line are count certificates one below the other, the target first.
func line(count int) []impl.Cert {
	var out []impl.Cert
	w := plainTrail(count)
	w.anchor.Name = partsOf("r")
	w.certs[0].Issuer = partsOf("r")
	for _, c := range slices.Backward(w.path()) {
		out = append(out, c)
	}
	return out
}

func TestTheLongestPath(t *testing.T) {
	q := plainAsk()
	for count := 1; count <= impl.MaxPool; count++ {
		pool := line(count)
		if count > impl.MaxPath {
			wantNone(t, "one that would need more", impl.BdNone, pool, theRoot(), 0, q)
			continue
		}
		var want []int64
		for at := int64(count) - 1; at >= 0; at-- {
			want = append(want, at)
		}
		wantFound(t, "in a line", pool, theRoot(), 0, q, 0, want...)
	}
}

func TestPathsThatGoRound(t *testing.T) {
	round := poolOf(tie{"a", 1, "t", 9}, tie{"b", 2, "a", 1}, tie{"c", 3, "b", 2}, tie{"a", 1, "c", 3})
	wantNone(t, "nobody is the anchor's", impl.BdNone, round, theRoot(), 0, plainAsk())
	wantFound(t, "out of the round", append(round, tie{"r", 0, "c", 3}.cert(5, true)), theRoot(), 0, plainAsk(), 0, 4, 2, 1, 0)
	self := poolOf(tie{"a", 1, "t", 9}, tie{"a", 1, "a", 1}, tie{"r", 0, "a", 1})
	wantFound(t, "past one that issued itself", self, theRoot(), 0, plainAsk(), 0, 2, 0)
	rolled := poolOf(tie{"a", 2, "t", 9}, tie{"a", 1, "a", 2}, tie{"r", 0, "a", 1})
	wantFound(t, "through a new key", rolled, theRoot(), 0, plainAsk(), 0, 2, 1, 0)
}

// mesh are MaxPool certificates of one name and key that all issued one another.
func mesh() []impl.Cert {
	var out []impl.Cert
	for i := range int64(impl.MaxPool) {
		out = append(out, tie{"a", 1, "a", 1}.cert(i+1, true))
	}
	return out
}

func TestManyThatIssuedOneAnother(t *testing.T) {
	pool := mesh()
	edges, ok := impl.Links(pool, theRoot())
	if !ok || len(edges) != 14*13 {
		t.Error(len(edges), ok)
	}
	q := plainAsk()
	q.Uses = 0
	wantNone(t, "none is the anchor's", impl.BdNone, pool, theRoot(), 0, q)
	pool[13] = tie{"r", 0, "a", 1}.cert(14, true)
	wantNone(t, "one is, but would be above its own key", impl.BdNone, pool, theRoot(), 0, q)
	pool[0] = tie{"a", 1, "t", 9}.cert(1, false)
	wantFound(t, "one is", pool, theRoot(), 0, q, 0, 13, 0)
	// Two by two, seven floors high: each list of one of the two on each floor is a path that is too little.
	var floors []impl.Cert
	for i := range 14 {
		floor := i / 2
		x := tie{string(rune('a' + floor + 1)), 1 + floor + 1, string(rune('a' + floor)), 1 + floor}
		if floor == 6 {
			x.by, x.byKey = "r", 0
		}
		floors = append(floors, x.cert(int64(i+1), true))
	}
	q.Pins = []uint64{5}
	wantNone(t, "none has the pin", impl.BdNone, floors, slices.Repeat(theRoot(), 6), 0, q)
	q.Pins = []uint64{impl.KeyId(pubNo(7))}
	wantFound(t, "all have it", floors, slices.Repeat(theRoot(), 6), 0, q, 0, 12, 10, 8, 6, 4, 2, 0)
}

func TestTargetsThatAreNone(t *testing.T) {
	pool := line(3)
	for _, target := range []int64{-1, 3, 4, math.MinInt64, math.MaxInt64, 1 << 32} {
		wantNone(t, "no position", impl.BdBad, pool, theRoot(), target, plainAsk())
	}
	wantNone(t, "no pool", impl.BdBad, nil, theRoot(), 0, plainAsk())
	wantNone(t, "no anchors", impl.BdBad, pool, nil, 0, plainAsk())
	wantNone(t, "nothing asked", impl.BdBad, pool, theRoot(), 0, impl.Ask{})
	wantNone(t, "too many", impl.BdBad, slices.Repeat(pool[:1], 15), theRoot(), 0, plainAsk())
	wantNone(t, "an anchor that is not right", impl.BdBad, pool, append(theRoot(), impl.Anchor{}), 0, plainAsk())
	wrong := line(3)
	wrong[0].Serial = 0
	wantNone(t, "a target that is not right", impl.BdNone, wrong, theRoot(), 0, plainAsk())
	wrong = line(3)
	wrong[1].Serial = 0
	wantNone(t, "one on the way that is not right", impl.BdNone, wrong, theRoot(), 0, plainAsk())
	wantFound(t, "beside one that is not right", append(line(2), impl.Cert{}), theRoot(), 0, plainAsk(), 0, 1, 0)
}

func TestCertificatesThatAreThereTwice(t *testing.T) {
	pool := line(3)
	twice := slices.Concat(pool, pool)
	wantFound(t, "the first of each", twice, theRoot(), 0, plainAsk(), 0, 2, 1, 0)
	wantFound(t, "the target's copy", twice, theRoot(), 3, plainAsk(), 0, 2, 1, 3)
	wantFound(t, "the copies alone", append(slices.Repeat([]impl.Cert{{}}, 3), pool...), theRoot(), 3, plainAsk(), 0, 5, 4, 3)
}

func TestFindInAnyPool(t *testing.T) {
	r := rand.New(rand.NewSource(142))
	seen := map[int]int{}
	for range 500 {
		pool, anchors := anyPool(r, 6), anyAnchors(r, 2)
		q := plainAsk()
		q.Uses = 0
		for target := range int64(len(pool)) {
			want, wantAnchor, wantCode := slowFindPath(pool, anchors, target, q)
			got, anchor, code := impl.Find(pool, anchors, target, q)
			if code != wantCode || anchor != wantAnchor || !slices.Equal(got, want) {
				t.Fatal("got", got, anchor, code, "want", want, wantAnchor, wantCode)
			}
			seen[len(want)]++
		}
	}
	if seen[0] < 50 || seen[1] < 50 || seen[2] < 30 || seen[3] < 5 {
		t.Error("too few of some length", seen)
	}
}

func TestTheOrderOfThePoolDoesNotMatter(t *testing.T) {
	r := rand.New(rand.NewSource(143))
	seen := map[int]int{}
	for range 1000 {
		pool, anchors := anyPool(r, impl.MaxPool), anyAnchors(r, 6)
		if len(pool) == 0 {
			continue
		}
		q := plainAsk()
		q.Uses = 0
		target := r.Intn(len(pool))
		list, anchor, code := impl.Find(pool, anchors, int64(target), q)
		if code == 0 {
			checkFoundPath(t, pool, anchors, int64(target), q, list, anchor)
		}
		seen[len(list)]++
		for range 3 {
			order := r.Perm(len(pool))
			var other []impl.Cert
			for _, at := range order {
				other = append(other, pool[at])
			}
			turned := slices.Clone(anchors)
			r.Shuffle(len(turned), func(i int, j int) { turned[i], turned[j] = turned[j], turned[i] })
			again, k, otherCode := impl.Find(other, turned, int64(slices.Index(order, target)), q)
			if otherCode != code || len(again) != len(list) {
				t.Fatal("in another order", again, otherCode, "was", list, code)
			}
			if code == 0 {
				checkFoundPath(t, other, turned, int64(slices.Index(order, target)), q, again, k)
			}
		}
	}
	if seen[0] < 50 || seen[1] < 50 || seen[2] < 30 || seen[3] < 10 {
		t.Error("too few of some length", seen)
	}
}

func checkFoundPath(t *testing.T, pool []impl.Cert, anchors []impl.Anchor, target int64, q impl.Ask, list []int64, anchor int64) {
	t.Helper()
	var path []impl.Cert
	for _, at := range list {
		path = append(path, pool[at])
	}
	if list[len(list)-1] != target {
		t.Error("it does not end with the target", list, target)
	}
	if code, at := impl.Check(path, anchors[anchor], q); code != 0 {
		t.Error("what is found is not accepted:", code, at)
	}
}
