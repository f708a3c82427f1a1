package tests

import (
	"math"
	"math/rand"
	"slices"
	"testing"

	"loop.example/g00041/impl"
)

func mapOf(from int64, to int64) impl.PolMap { return impl.PolMap{From: from, To: to} }

func TestPolicyConstants(t *testing.T) {
	if impl.MaxPath != 8 || impl.MaxPols != 6 {
		t.Error(impl.MaxPath, impl.MaxPols)
	}
}

// accepted tells whether both functions take the path, whose certificates all have the policy 7.
func accepted(t *testing.T, path []impl.PolCert) bool {
	t.Helper()
	holds := impl.PolicyHolds(path, 7, false, false)
	got, ok := impl.PathPolicies(path, []int64{7}, false, false, false)
	if ok != holds || ok && !slices.Equal(got, []int64{7}) || !ok && !refused(got, ok) {
		t.Error("one takes it, the other doesn't:", holds, got, ok, path)
	}
	return ok && holds
}

func TestHowLongAPathMayBe(t *testing.T) {
	for count := range 20 {
		path := slices.Repeat(pathOf(says(7)), count)
		if got, want := accepted(t, path), count >= 1 && count <= impl.MaxPath; got != want {
			t.Error(count, "certificates: got", got)
		}
	}
	if accepted(t, nil) || accepted(t, []impl.PolCert{}) || accepted(t, slices.Repeat(pathOf(says(7)), 100000)) {
		t.Error("none, or far too many")
	}
}

// polCertCases are certificates, of which the ones that are right let 7 stay what it is.
func polCertCases() []struct {
	why  string
	cert impl.PolCert
	want bool
} {
	maps := func(count int) []impl.PolMap { return slices.Repeat([]impl.PolMap{{From: 8, To: 9}}, count) }
	many := make([]int64, 10000)
	many[0] = 7
	return []struct {
		why  string
		cert impl.PolCert
		want bool
	}{
		{"MaxPols policies", says(7, 1, 2, 3, 4, 5), true}, {"MaxPols policies, 7 at last", says(5, 4, 3, 2, 1, 7), true}, {"one more", says(7, 1, 2, 3, 4, 5, 6), false}, {"one more, 7 at last", says(1, 2, 3, 4, 5, 6, 7), false}, {"many", says(many...), false},
		{"7 twice", says(7, 7), false}, {"another twice", says(7, 3, 3), false}, {"the first and the last alike", says(3, 7, 4, 5, 3), false}, {"0 twice", says(0, 7, 0), false},
		{"-1", says(7, -1), false}, {"0", says(7, 0), true}, {"1", says(7, 1), true}, {"1000", says(1000, 7), true}, {"1001", says(1001, 7), false}, {"the least number", says(7, math.MinInt64), false}, {"the greatest number", says(math.MaxInt64, 7), false},
		{"MaxPols maps", withMaps(says(7), maps(6)...), true}, {"one more map", withMaps(says(7), maps(7)...), false}, {"many maps", withMaps(says(7), maps(10000)...), false},
		{"From -1", withMaps(says(7), mapOf(-1, 9)), false}, {"From 0", withMaps(says(7), mapOf(0, 9)), false}, {"From 1", withMaps(says(7), mapOf(1, 9)), true}, {"From 1000", withMaps(says(7), mapOf(1000, 9)), true}, {"From 1001", withMaps(says(7), mapOf(1001, 9)), false},
		{"To -1", withMaps(says(7), mapOf(9, -1)), false}, {"To 0", withMaps(says(7), mapOf(9, 0)), false}, {"To 1", withMaps(says(7), mapOf(9, 1)), true}, {"To 1000", withMaps(says(7), mapOf(9, 1000)), true}, {"To 1001", withMaps(says(7), mapOf(9, 1001)), false},
		{"the last map is wrong", withMaps(says(7), mapOf(8, 9), mapOf(8, 9), mapOf(9, 1001)), false}, {"one to itself", withMaps(says(7), mapOf(9, 9)), true}, {"7 to itself", withMaps(says(7), mapOf(7, 7)), true},
	}
}

func TestWhichCertificatesAreRight(t *testing.T) {
	for _, row := range polCertCases() {
		for count := 1; count <= impl.MaxPath; count++ {
			for at := range count {
				path := slices.Repeat(pathOf(says(7)), count)
				path[at] = row.cert
				if got := accepted(t, path); got != row.want {
					t.Error(row.why, "at", at, "of", count, "got", got)
				}
				path[at].Self = true
				if got := accepted(t, path); got != row.want {
					t.Error(row.why, "self, at", at, "of", count, "got", got)
				}
			}
		}
	}
}

func TestWhichLimitsAreRight(t *testing.T) {
	fields := map[string]func(c *impl.PolCert) *int64{
		"NeedPolicy": func(c *impl.PolCert) *int64 { return &c.NeedPolicy },
		"NoMap":      func(c *impl.PolCert) *int64 { return &c.NoMap },
		"NoAny":      func(c *impl.PolCert) *int64 { return &c.NoAny },
	}
	numbers := map[int64]bool{math.MinInt64: false, -2: false, -1: true, 0: true, 1: true, 9: true, 10: true, 11: false, math.MaxInt64: false}
	for why, field := range fields {
		for n, want := range numbers {
			for at := range 3 {
				path := slices.Repeat(pathOf(says(7)), 3)
				*field(&path[at]) = n
				if got := accepted(t, path); got != want {
					t.Error(why, n, "at", at, "got", got)
				}
			}
		}
	}
}

func TestWhichPoliciesThereAre(t *testing.T) {
	paths := [][]impl.PolCert{pathOf(says(0, 1, 1000)), pathOf(says(0, 1, 1000), says(1000, 1, 0)), pathOf(says(0), selfSays(0), says(0))}
	for _, path := range paths {
		for _, p := range []int64{math.MinInt64, -1, 0, 1, 2, 999, 1000, 1001, math.MaxInt64} {
			checkHolds(t, "which there are", p >= 1 && p <= 1000, path, p, false, false)
		}
	}
	for _, p := range []int64{-1, 0, 1, 2, 999, 1000, 1001} {
		checkHolds(t, "those that are told", p == 1 || p == 1000, pathOf(says(1, 1000), says(1000, 1)), p, false, false)
		checkHolds(t, "none", false, pathOf(says()), p, false, false)
		checkHolds(t, "any, which counts for nothing", false, pathOf(says(0)), p, false, true)
	}
}

func TestAPolicyThatIsMissing(t *testing.T) {
	holdsJust(t, "in the one", pathOf(says(3, 5)), 3, 5)
	holdsJust(t, "in all", pathOf(says(3, 5), says(5, 3), says(3, 4, 5)), 3, 5)
	holdsJust(t, "not in the first", pathOf(says(5), says(5, 3), says(3, 5)), 5)
	holdsJust(t, "not in one between", pathOf(says(3, 5), says(5), says(3, 5)), 5)
	holdsJust(t, "not in the last", pathOf(says(3, 5), says(5, 3), says(5)), 5)
	holdsJust(t, "nothing in the first", pathOf(says(), says(3), says(3)))
	holdsJust(t, "nothing between", pathOf(says(3), says(), says(3)))
	holdsJust(t, "nothing in the last", pathOf(says(3), says(3), says()))
	holdsJust(t, "nothing in one that is self", pathOf(says(3), selfSays(), says(3)))
	holdsJust(t, "not in one that is self", pathOf(says(3, 4), selfSays(4), says(3, 4)), 4)
	for at := range impl.MaxPath {
		path := slices.Repeat(pathOf(says(3)), impl.MaxPath)
		path[at] = says(4)
		holdsJust(t, "not in one of MaxPath", path)
		path[at] = says(0)
		holdsJust(t, "any in one of MaxPath", path, 3)
	}
	holdsJust(t, "in all of MaxPath", slices.Repeat(pathOf(says(3)), impl.MaxPath), 3)
}

func TestAnyStandsForAll(t *testing.T) {
	all := []int64{1, 2, 3, 4, 5, 6, 7, 8, 9}
	holdsJust(t, "any in the one", pathOf(says(0)), all...)
	holdsJust(t, "any in all", pathOf(says(0), says(0, 3), says(4, 0)), all...)
	holdsJust(t, "any in the first", pathOf(says(0), says(3)), 3)
	holdsJust(t, "any in the last", pathOf(says(3), says(0)), 3)
	holdsJust(t, "any between", pathOf(says(3, 4), says(0), says(4, 5)), 4)
	for p := int64(1); p <= 9; p++ {
		checkHolds(t, "any in the first, which does not count", false, pathOf(says(0), says(3)), p, false, true)
		checkHolds(t, "any in the last, which does not count", false, pathOf(says(3), says(0)), p, false, true)
		checkHolds(t, "any between, which does not count", false, pathOf(says(3), says(0), says(3)), p, false, true)
		checkHolds(t, "beside any, which does not count", p == 3, pathOf(says(3, 0), says(0, 3), says(3, 0)), p, false, true)
		checkHolds(t, "any in all, maps don't count", true, pathOf(says(0), says(0)), p, true, false)
	}
}

func TestAnyOfOneThatIsSelf(t *testing.T) {
	rows := []struct {
		why  string
		path []impl.PolCert
		want bool
	}{
		{"the first", pathOf(selfSays(0), says(3)), true}, {"the one there is", pathOf(selfSays(0)), false}, {"the last", pathOf(says(3), selfSays(0)), false}, {"one between", pathOf(says(3), selfSays(0), says(3)), true},
		{"the first of two, and the last is not", pathOf(selfSays(0), says(0)), false}, {"all but the last", pathOf(selfSays(0), selfSays(0), selfSays(0), says(3)), true}, {"all", pathOf(selfSays(0), selfSays(0), selfSays(0)), false},
		{"the last has the policy, too", pathOf(says(3), selfSays(3, 0)), true}, {"one between is not self", pathOf(says(3), says(0), selfSays(3)), false},
	}
	for _, row := range rows {
		checkHolds(t, row.why, row.want, row.path, 3, false, true)
		checkHolds(t, row.why+", any counts", true, row.path, 3, false, false)
		checkHolds(t, row.why+", neither counts", row.want, row.path, 3, true, true)
	}
	holdsJust(t, "self, and not any", pathOf(selfSays(4), says(3, 4)), 4)
}

func TestMapsThatCount(t *testing.T) {
	holdsJust(t, "a map", pathOf(withMaps(says(1), mapOf(1, 5)), says(5)), 1)
	holdsJust(t, "the policy itself is no longer meant", pathOf(withMaps(says(1), mapOf(1, 5)), says(1)))
	holdsJust(t, "what is mapped to is itself, too", pathOf(withMaps(says(1, 5), mapOf(1, 5)), says(5)), 1, 5)
	holdsJust(t, "a From that does not hold", pathOf(withMaps(says(2), mapOf(1, 5)), says(1, 2, 5)), 2)
	holdsJust(t, "a From that holds by any", pathOf(withMaps(says(0), mapOf(1, 5)), says(1, 2, 5)), 1, 2, 5)
	holdsJust(t, "to itself", pathOf(withMaps(says(1), mapOf(1, 1)), says(1)), 1)
	holdsJust(t, "to itself and another, which is last", pathOf(withMaps(says(1), mapOf(1, 1), mapOf(1, 5)), says(5)), 1)
	holdsJust(t, "to itself and another, it is last", pathOf(withMaps(says(1), mapOf(1, 5), mapOf(1, 1)), says(1)), 1)
	holdsJust(t, "there and back", pathOf(withMaps(says(1, 2), mapOf(1, 2), mapOf(2, 1)), says(2)), 1)
	holdsJust(t, "maps of one certificate are no chain", pathOf(withMaps(says(1, 2), mapOf(1, 2), mapOf(2, 3)), says(3)), 2)
	holdsJust(t, "of one that is self", pathOf(withMaps(selfSays(1), mapOf(1, 5)), says(5)), 1)
	holdsJust(t, "the same map twice", pathOf(withMaps(says(1), mapOf(1, 5), mapOf(1, 5)), says(5)), 1)
	holdsJust(t, "any in the last", pathOf(withMaps(says(1), mapOf(1, 5)), says(0)), 1)
	checkHolds(t, "the greatest", true, pathOf(withMaps(says(1000), mapOf(1000, 1)), withMaps(says(1), mapOf(1, 1000)), says(1000)), 1000, false, false)
}

func TestMapsWithSeveralEnds(t *testing.T) {
	several := withMaps(says(1), mapOf(1, 4), mapOf(1, 5), mapOf(1, 6))
	for _, last := range []int64{4, 5, 6} {
		holdsJust(t, "several Tos, one is last", pathOf(several, says(last)), 1)
	}
	holdsJust(t, "several Tos, all are last", pathOf(several, says(6, 5, 4)), 1)
	holdsJust(t, "several Tos, none is last", pathOf(several, says(1, 7)))
	holdsJust(t, "several Tos, none goes on", pathOf(several, says(4, 5), says(6)))
	holdsJust(t, "several Tos, one goes on", pathOf(several, says(4, 5), says(5, 6)), 1)
	holdsJust(t, "several Froms", pathOf(withMaps(says(1, 2, 3), mapOf(1, 5), mapOf(2, 5), mapOf(3, 5)), says(5)), 1, 2, 3)
	holdsJust(t, "several Froms, some hold", pathOf(withMaps(says(1, 3), mapOf(1, 5), mapOf(2, 5), mapOf(3, 5)), says(5)), 1, 3)
	holdsJust(t, "both", pathOf(withMaps(says(1, 2), mapOf(1, 4), mapOf(1, 5), mapOf(2, 5), mapOf(2, 6)), says(4)), 1)
	holdsJust(t, "both, at the one they share", pathOf(withMaps(says(1, 2), mapOf(1, 4), mapOf(1, 5), mapOf(2, 5), mapOf(2, 6)), says(5)), 1, 2)
}

func TestChainsOfMaps(t *testing.T) {
	chain := pathOf(withMaps(says(1), mapOf(1, 2)), withMaps(says(2), mapOf(2, 3)), withMaps(says(3), mapOf(3, 4)), says(4))
	holdsJust(t, "a chain", chain, 1)
	checkHolds(t, "a chain, maps don't count", false, chain, 1, true, false)
	checkHolds(t, "a chain, any doesn't count", true, chain, 1, false, true)
	for at := range chain {
		broken := slices.Clone(chain)
		broken[at] = changedPol(chain[at], func(c *impl.PolCert) { c.Policies = []int64{9} })
		holdsJust(t, "a chain that is broken", broken)
		broken[at] = changedPol(chain[at], func(c *impl.PolCert) { c.Policies = []int64{0} })
		checkHolds(t, "any in a chain", true, broken, 1, false, false)
		broken[at] = changedPol(chain[at], func(c *impl.PolCert) { c.Maps = nil })
		checkHolds(t, "a chain without a map", at == len(chain)-1, broken, 1, false, false)
	}
	holdsJust(t, "one in the way stays", pathOf(withMaps(says(1), mapOf(1, 2)), says(2), withMaps(says(2), mapOf(2, 3)), says(3)), 1)
	holdsJust(t, "round and back", pathOf(withMaps(says(1), mapOf(1, 2)), withMaps(says(2), mapOf(2, 1)), says(1)), 1)
	holdsJust(t, "they part and meet", pathOf(withMaps(says(1), mapOf(1, 2), mapOf(1, 3)), withMaps(says(3), mapOf(2, 4), mapOf(3, 5)), says(4, 5)), 1)
	holdsJust(t, "they part, and the wrong one goes on", pathOf(withMaps(says(1), mapOf(1, 2), mapOf(1, 3)), withMaps(says(2, 3), mapOf(3, 4)), says(3)))
}

// As many chains as there can be: six ways at each of seven certificates.
func TestManyChains(t *testing.T) {
	var all []impl.PolMap
	for to := int64(1); to <= impl.MaxPols; to++ {
		all = append(all, mapOf(1, to))
	}
	wide := slices.Repeat(pathOf(withMaps(says(0), all...)), impl.MaxPath)
	holdsJust(t, "all of them", wide, 1, 2, 3, 4, 5, 6, 7, 8, 9)
	wide[impl.MaxPath-1] = says(9)
	holdsJust(t, "none of them", wide, 9)
	alike := slices.Repeat(pathOf(withMaps(says(1), slices.Repeat([]impl.PolMap{mapOf(1, 1)}, impl.MaxPols)...)), impl.MaxPath)
	holdsJust(t, "all alike", alike, 1)
	alike[impl.MaxPath-1].Policies = []int64{2}
	holdsJust(t, "all alike, for nothing", alike)
}

func TestMapsThatCountNoMore(t *testing.T) {
	path := pathOf(withMaps(says(1, 2, 5), mapOf(1, 5), mapOf(3, 2)), says(1, 2, 5))
	holdsJust(t, "they count", path, 1, 2, 5)
	for p := int64(1); p <= 9; p++ {
		checkHolds(t, "a From means nothing then, a To itself", p == 2 || p == 5, path, p, true, false)
	}
	self := pathOf(changedPol(path[0], func(c *impl.PolCert) { c.Self = true }), path[1])
	checkHolds(t, "of one that is self neither", false, self, 1, true, false)
	checkHolds(t, "to itself neither", false, pathOf(withMaps(says(1), mapOf(1, 1)), says(1)), 1, true, false)
	checkHolds(t, "nor where any counts", false, pathOf(withMaps(says(0), mapOf(1, 5)), says(0)), 1, true, false)
	checkHolds(t, "what is no From stays", true, pathOf(withMaps(says(0), mapOf(1, 5)), says(0)), 2, true, false)
}

func TestMapsOfTheLastCertificate(t *testing.T) {
	for _, noMap := range []bool{false, true} {
		for p := int64(1); p <= 9; p++ {
			checkHolds(t, "of two", p == 1, pathOf(says(1), withMaps(says(1), mapOf(1, 5), mapOf(5, 1))), p, noMap, false)
			checkHolds(t, "of one", p == 1, pathOf(withMaps(says(1), mapOf(1, 5), mapOf(5, 1))), p, noMap, false)
			checkHolds(t, "of one that is self", p == 1, pathOf(withMaps(selfSays(1), mapOf(1, 5), mapOf(5, 1))), p, noMap, false)
		}
	}
}

// between is a row of count certificates with the policy 3 of which the ones at the places of self are Self.
func between(count int, self ...int) []impl.PolCert {
	out := slices.Repeat(pathOf(says(3)), count)
	for _, at := range self {
		out[at].Self = true
	}
	return out
}

// A limit of n in the first lets any count for n certificates behind it that are not Self.
func TestTheCounterOfAny(t *testing.T) {
	for n := int64(-1); n <= 10; n++ {
		for count := range 7 {
			first := says(3)
			first.NoAny = n
			path := slices.Concat(pathOf(first), between(count), pathOf(says(0)))
			checkHolds(t, "any in the last", n == -1 || int64(count) < n, path, 3, false, false)
			checkHolds(t, "any in the last, at no time", false, path, 3, false, true)
			path[0].Self = true
			checkHolds(t, "any in the last, the first is self", n == -1 || int64(count) < n, path, 3, false, false)
			for at := range count {
				path := slices.Concat(pathOf(first), between(count, at), pathOf(says(0)))
				checkHolds(t, "any in the last, one between is self", n == -1 || int64(count-1) < n, path, 3, false, false)
			}
			last := slices.Concat(pathOf(first), between(count), pathOf(selfSays(0)))
			checkHolds(t, "any in the last, which is self", n == -1 || int64(count) < n, last, 3, false, false)
			inner := slices.Concat(pathOf(first), between(count), pathOf(selfSays(0), says(3)))
			checkHolds(t, "any in one that is self, if the path is not too long", len(inner) <= impl.MaxPath, inner, 3, false, false)
		}
	}
}

// A limit of n in the first lets maps count for n certificates behind it that are not Self.
func TestTheCounterOfMaps(t *testing.T) {
	mapped := withMaps(says(3), mapOf(3, 4))
	for n := int64(-1); n <= 10; n++ {
		for count := range 6 {
			first := says(3)
			first.NoMap = n
			path := slices.Concat(pathOf(first), between(count), pathOf(mapped, says(4)))
			checkHolds(t, "a map ahead of the last", n == -1 || int64(count) < n, path, 3, false, false)
			checkHolds(t, "a map ahead of the last, at no time", false, path, 3, true, false)
			path[0].Self = true
			checkHolds(t, "a map, the first is self", n == -1 || int64(count) < n, path, 3, false, false)
			path[count+1].Self = true
			checkHolds(t, "a map of one that is self", n == -1 || int64(count) < n, path, 3, false, false)
			for at := range count {
				path := slices.Concat(pathOf(first), between(count, at), pathOf(mapped, says(4)))
				checkHolds(t, "a map, one between is self", n == -1 || int64(count-1) < n, path, 3, false, false)
			}
		}
	}
}

// needed tells whether the path, none of whose policies is asked for, needs one.
func needed(t *testing.T, path []impl.PolCert, need bool) bool {
	t.Helper()
	got, ok := impl.PathPolicies(path, []int64{9}, need, false, false)
	if len(got) > 0 {
		t.Error("nothing was asked for, got", got)
	}
	if got, ok := impl.PathPolicies(path, []int64{3}, need, false, false); !ok || !slices.Equal(got, []int64{3}) {
		t.Error("with one in the answer none lacks, got", got, ok, path)
	}
	return !ok
}

// A limit of n in the first lets n certificates behind it, the last among them, do without a policy.
func TestTheCounterOfNeeding(t *testing.T) {
	for n := int64(-1); n <= 10; n++ {
		for count := 1; count < 8; count++ {
			path := slices.Concat(pathOf(says(3)), between(count))
			path[0].NeedPolicy = n
			want := n != -1 && int64(count) >= n
			if needed(t, path, false) != want || !needed(t, path, true) {
				t.Error(n, "and", count, "behind it")
			}
			path[0].Self = true
			if needed(t, path, false) != want || !needed(t, path, true) {
				t.Error(n, "in one that is self, and", count, "behind it")
			}
			for at := range count {
				path := slices.Concat(pathOf(says(3)), between(count, at))
				path[0].NeedPolicy = n
				if want := n != -1 && int64(count-1) >= n; needed(t, path, false) != want {
					t.Error(n, "and", count, "behind it, self at", at)
				}
			}
		}
	}
}

func TestNeedingAtTheLastCertificate(t *testing.T) {
	for n := int64(-1); n <= 10; n++ {
		for count := range 8 {
			for _, self := range []bool{false, true} {
				last := says(3)
				last.NeedPolicy, last.Self = n, self
				path := append(between(count), last)
				if needed(t, path, false) != (n == 0) || !needed(t, path, true) {
					t.Error(n, "in the last of", count+1, self)
				}
			}
		}
	}
}

func TestALimitIsNeverRaised(t *testing.T) {
	for n := range int64(11) {
		first, second := says(3), says(3)
		first.NeedPolicy, first.NoMap, first.NoAny = 1, 1, 1
		second.NeedPolicy, second.NoMap, second.NoAny = n, n, n
		if !needed(t, pathOf(first, second, says(3)), false) {
			t.Error("needing is put off", n)
		}
		checkHolds(t, "any counts again", false, pathOf(first, second, says(0)), 3, false, false)
		checkHolds(t, "maps count again", false, pathOf(first, second, withMaps(says(3), mapOf(3, 4)), says(4)), 3, false, false)
		second.Self = true
		if got := needed(t, pathOf(first, second, says(3)), false); !got {
			t.Error("needing is put off by one that is self", n)
		}
		checkHolds(t, "any counts still", n > 0, pathOf(first, second, says(0)), 3, false, false)
		checkHolds(t, "maps count still", n > 0, pathOf(first, second, withMaps(says(3), mapOf(3, 4)), says(4)), 3, false, false)
	}
}

// What a certificate says of the counters counts behind it alone, and each number for its own counter.
func TestALimitCountsBehindItsCertificate(t *testing.T) {
	own := withMaps(says(0), mapOf(3, 4))
	own.NoMap, own.NoAny = 0, 0
	checkHolds(t, "in the first", true, pathOf(own, says(4)), 3, false, false)
	checkHolds(t, "in the second", true, pathOf(says(3), own, says(4)), 3, false, false)
	checkHolds(t, "in the last", true, pathOf(says(3), changedPol(own, func(c *impl.PolCert) { c.Maps = nil })), 3, false, false)
	checkHolds(t, "in the only one", true, pathOf(own), 3, false, false)
	mapped := withMaps(says(0), mapOf(3, 4))
	path := func(change func(c *impl.PolCert)) []impl.PolCert {
		return pathOf(changedPol(says(3), change), mapped, says(4))
	}
	checkHolds(t, "NeedPolicy", true, path(func(c *impl.PolCert) { c.NeedPolicy = 0 }), 3, false, false)
	checkHolds(t, "NoMap", false, path(func(c *impl.PolCert) { c.NoMap = 0 }), 3, false, false)
	checkHolds(t, "NoAny", false, path(func(c *impl.PolCert) { c.NoAny = 0 }), 3, false, false)
	checkHolds(t, "all at 1", true, path(func(c *impl.PolCert) { c.NeedPolicy, c.NoMap, c.NoAny = 1, 1, 1 }), 3, false, false)
	for _, limit := range []func(c *impl.PolCert){func(c *impl.PolCert) { c.NoMap = 0 }, func(c *impl.PolCert) { c.NoAny = 0 }} {
		if needed(t, pathOf(changedPol(says(3), limit), says(3)), false) {
			t.Error("none is needed")
		}
	}
}

func TestWhatIsAskedFor(t *testing.T) {
	path := pathOf(says(0, 1, 7, 1000))
	twenty := slices.Repeat([]int64{7}, 20)
	with := func(at int, p int64) []int64 {
		out := slices.Clone(twenty)
		out[at] = p
		return out
	}
	rows := []struct {
		why     string
		initial []int64
		want    []int64
	}{
		{"none", nil, nil}, {"an empty list", []int64{}, nil}, {"one", []int64{7}, []int64{7}}, {"20", twenty, []int64{7}}, {"21", append(with(0, 7), 7), nil}, {"21, with 0", append(with(0, 0), 7), nil}, {"many", make([]int64, 10000), nil},
		{"-1", []int64{-1}, nil}, {"1", []int64{1}, []int64{1}}, {"1000", []int64{1000}, []int64{1000}}, {"1001", []int64{1001}, nil}, {"the greatest number", []int64{math.MaxInt64}, nil}, {"the least number", []int64{math.MinInt64}, nil},
		{"-1 behind 7", []int64{7, -1}, nil}, {"1001 ahead of 7", []int64{1001, 7}, nil}, {"1001 at last", with(19, 1001), nil}, {"-1 at first, with 0", []int64{-1, 0}, nil}, {"1001 behind 0", []int64{0, 1001}, nil},
		{"0", []int64{0}, []int64{0, 1, 7, 1000}}, {"0 and 5", []int64{5, 0}, []int64{0, 1, 5, 7, 1000}}, {"0 twice", []int64{0, 0}, []int64{0, 1, 7, 1000}}, {"0 at last of 20", with(19, 0), []int64{0, 1, 7, 1000}},
		{"some, not in order", []int64{1000, 5, 7, 1}, []int64{1, 5, 7, 1000}}, {"some twice", []int64{9, 5, 9, 5, 5}, []int64{5, 9}}, {"2 .. 1000", []int64{2, 1000, 2}, []int64{2, 1000}},
	}
	for _, row := range rows {
		got, ok := impl.PathPolicies(path, row.initial, false, false, false)
		if ok != (row.want != nil) || !slices.Equal(got, row.want) {
			t.Error(row.why, "got", got, ok, "want", row.want)
		}
	}
	if got, ok := impl.PathPolicies(nil, []int64{0}, false, false, false); !refused(got, ok) {
		t.Error("no path", got, ok)
	}
}

func TestWhereAPolicyIsNamed(t *testing.T) {
	ask := []int64{0}
	checkPolicies(t, "in Policies only", pathOf(says(0), says(0, 4)), ask, 0, 4)
	checkPolicies(t, "in Policies of the first only", pathOf(says(4, 0), says(0)), ask, 0, 4)
	checkPolicies(t, "in Policies between only", pathOf(says(0), says(4, 0), says(0)), ask, 0, 4)
	checkPolicies(t, "as From and as To only", pathOf(withMaps(says(0), mapOf(5, 6)), says(0)), ask, 0, 5, 6)
	checkPolicies(t, "in maps of the last only", pathOf(says(0), withMaps(says(0), mapOf(8, 2))), ask, 0, 2, 8)
	checkPolicies(t, "as a From only, to one that is there", pathOf(withMaps(says(0), mapOf(5, 6)), says(6)), ask, 5, 6)
	checkPolicies(t, "as a To only, which does not stay", pathOf(withMaps(says(5), mapOf(5, 6)), says(6)), ask, 5)
	checkPolicies(t, "in initial only", pathOf(says(0), says(0)), []int64{0, 9}, 0, 9)
	checkPolicies(t, "in initial only, without 0", pathOf(says(0), says(0)), []int64{9}, 9)
	checkPolicies(t, "in initial only, and it does not hold", pathOf(says(0), says(4)), []int64{0, 9}, 4)
	checkPolicies(t, "nowhere", pathOf(says(0), says(0)), ask, 0)
	checkPolicies(t, "nowhere, one certificate", pathOf(says(0)), ask, 0)
	checkPolicies(t, "0 is named, and holds for none that is named nowhere", pathOf(says(0, 3), says(3)), ask, 3)
	checkPolicies(t, "0 in the last alone", pathOf(says(3), says(0)), ask, 3)
	checkPolicies(t, "0 in neither", pathOf(says(3, 4), says(4, 3)), ask, 3, 4)
	checkPolicies(t, "nothing holds", pathOf(says(3), says(4)), ask)
	checkPolicies(t, "there is nothing", pathOf(says(), says()), ask)
	checkPolicies(t, "0 is not asked for", pathOf(says(0), says(0, 4)), []int64{4, 9}, 4, 9)
	checkPolicies(t, "what holds is not asked for", pathOf(says(3, 4), says(4, 3)), []int64{5})
	checkPolicies(t, "some of what holds is asked for", pathOf(says(3, 4, 5), says(5, 4, 3)), []int64{5, 3}, 3, 5)
	checkPolicies(t, "what the map is to is asked for", pathOf(withMaps(says(1), mapOf(1, 5)), says(5)), []int64{5})
	checkPolicies(t, "what the map is from is asked for", pathOf(withMaps(says(1), mapOf(1, 5)), says(5)), []int64{1}, 1)
}

// One that is named nowhere is looked for among all that there are, also where the first ones are all named.
func TestNamedNowhereIsLookedForBeyondTheNamed(t *testing.T) {
	next := int64(0)
	some := func() int64 {
		next++
		return next
	}
	var path []impl.PolCert
	var want []int64
	for range impl.MaxPath {
		c := says(0)
		for range impl.MaxPols - 1 {
			c.Policies = append(c.Policies, some())
		}
		for range impl.MaxPols {
			c.Maps = append(c.Maps, mapOf(some(), some()))
		}
		path = append(path, c)
	}
	initial := []int64{0}
	for len(initial) < 20 {
		initial = append(initial, some())
	}
	for p := int64(0); p <= next; p++ {
		want = append(want, p)
	}
	checkPolicies(t, "all that can be named", path, initial, want...)
	path[3].Policies = path[3].Policies[1:]
	got, ok := impl.PathPolicies(path, initial, false, false, false)
	if !ok || slices.Contains(got, 0) || !slices.IsSorted(got) || len(got) != impl.MaxPols-1 {
		t.Error("one has no 0, got", got, ok)
	}
}

func TestTheFlagsOfPathPolicies(t *testing.T) {
	any2, map2 := pathOf(says(0), says(0, 4)), pathOf(withMaps(says(1, 2), mapOf(1, 5)), says(2, 5))
	none := pathOf(says(1), says(2))
	rows := []struct {
		why                string
		path               []impl.PolCert
		initial            []int64
		need, noMap, noAny bool
		want               []int64
		ok                 bool
	}{
		{"need, and there are some", any2, []int64{0}, true, false, false, []int64{0, 4}, true}, {"need, and there is 0 alone", pathOf(says(0)), []int64{0}, true, false, false, []int64{0}, true}, {"need, and there is one alone", any2, []int64{9}, true, false, false, []int64{9}, true},
		{"need, and there is none", none, []int64{0}, true, false, false, nil, false}, {"none", none, []int64{0}, false, false, false, nil, true}, {"need, and none is asked for", pathOf(says(3)), []int64{4}, true, false, false, nil, false}, {"none is asked for", pathOf(says(3)), []int64{4}, false, false, false, nil, true},
		{"noAny", any2, []int64{0}, false, false, true, nil, true}, {"noAny and need", any2, []int64{0}, true, false, true, nil, false}, {"noAny, and one is told", pathOf(says(0, 4), says(4, 0)), []int64{0}, true, false, true, []int64{4}, true},
		{"maps", map2, []int64{0}, true, false, false, []int64{1, 2}, true}, {"noMap", map2, []int64{0}, true, true, false, []int64{2}, true}, {"noMap, and the From is asked for", map2, []int64{1}, false, true, false, nil, true}, {"noMap and need, and the From is asked for", map2, []int64{1}, true, true, false, nil, false},
		{"all of them", any2, []int64{0}, true, true, true, nil, false}, {"all of them, and one is told", map2, []int64{0}, true, true, true, []int64{2}, true},
	}
	for _, row := range rows {
		if got, ok := impl.PathPolicies(row.path, row.initial, row.need, row.noMap, row.noAny); ok != row.ok || !slices.Equal(got, row.want) {
			t.Error(row.why, "got", got, ok, "want", row.want, row.ok)
		}
	}
}

func TestNeedingWithAndWithoutAPolicy(t *testing.T) {
	path := pathOf(says(1, 3), says(2, 3))
	for n := int64(-1); n <= 10; n++ {
		for last := int64(-1); last <= 10; last++ {
			path[0].NeedPolicy, path[1].NeedPolicy = n, last
			checkPolicies(t, "with one", path, []int64{0}, 3)
			want := n == 0 || n == 1 || last == 0
			if got, ok := impl.PathPolicies(path, []int64{1, 2}, false, false, false); ok == want || len(got) > 0 {
				t.Error("without one", n, last, "got", got, ok)
			}
		}
	}
}

// Each policy that there is is asked for by itself: the ones that are told are just those that hold.
func TestPathPoliciesTellsJustThoseThatHold(t *testing.T) {
	r := rand.New(rand.NewSource(131))
	for range 200 {
		path, initial := anyPolPath(r), anyAsked(r)
		noMap, noAny := r.Intn(4) == 0, r.Intn(4) == 0
		got, ok := impl.PathPolicies(path, initial, false, noMap, noAny)
		if !ok {
			continue
		}
		all := slices.Contains(initial, 0)
		for p := int64(1); p <= 1000; p++ {
			holds := impl.PolicyHolds(path, p, noMap, noAny)
			if named := isNamed(path, initial, p); slices.Contains(got, p) != (holds && named && (all || slices.Contains(initial, p))) || !named && all && holds != slices.Contains(got, 0) {
				t.Fatal("got", got, "but", p, "holds:", holds, "of", path, initial)
			}
		}
	}
}

func TestPolicyHoldsByTheDocumentsWords(t *testing.T) {
	r := rand.New(rand.NewSource(132))
	seen := map[[3]bool]int{}
	for range 4000 {
		path := anyPolPath(r)
		noMap, noAny := r.Intn(6) == 0, r.Intn(6) == 0
		for _, p := range []int64{1, 2, 3, 4, 5, 6, 1000, 1 + r.Int63n(1000)} {
			want := slowHolds(path, p, noMap, noAny)
			checkHolds(t, "by the words", want, path, p, noMap, noAny)
			seen[[3]bool{want, noMap, noAny}]++
		}
	}
	if len(seen) < 8 {
		t.Error("too few kinds of answers were met:", seen)
	}
}

func TestPathPoliciesByTheDocumentsWords(t *testing.T) {
	r := rand.New(rand.NewSource(134))
	seen := map[[3]bool]int{}
	for range 600 {
		path, initial := anyPolPath(r), anyAsked(r)
		need, noMap, noAny := r.Intn(4) == 0, r.Intn(6) == 0, r.Intn(6) == 0
		want, wantOk := slowPolicies(path, initial, need, noMap, noAny)
		got, ok := impl.PathPolicies(path, initial, need, noMap, noAny)
		if ok != wantOk || !slices.Equal(got, want) {
			t.Fatal("got", got, ok, "want", want, wantOk, "of", path, initial, need, noMap, noAny)
		}
		seen[[3]bool{ok, len(got) > 0, slices.Contains(got, 0)}]++
	}
	// Refused; taken with none, with some, with any.
	if len(seen) < 4 {
		t.Error("too few kinds of answers were met:", seen)
	}
}

// The order of Policies, Maps and initial says nothing.
func TestTheOrderOfPoliciesDoesNotMatter(t *testing.T) {
	r := rand.New(rand.NewSource(133))
	for range 500 {
		path, initial := anyPolPath(r), anyAsked(r)
		got, ok := impl.PathPolicies(path, initial, false, false, false)
		turned := slices.Clone(path)
		for i, c := range turned {
			turned[i] = changedPol(c, func(c *impl.PolCert) {
				slices.Reverse(c.Policies)
				slices.Reverse(c.Maps)
			})
		}
		slices.Reverse(initial)
		if again, okAgain := impl.PathPolicies(turned, initial, false, false, false); ok != okAgain || !slices.Equal(got, again) {
			t.Fatal("got", got, ok, "and", again, okAgain, "of", path)
		}
	}
}
