package tests

import (
	"math/rand"
	"slices"
	"testing"

	"loop.example/g00041/impl"
)

// says is a certificate that has these policies, and no limits.
func says(policies ...int64) impl.PolCert {
	return impl.PolCert{Policies: policies, NeedPolicy: -1, NoMap: -1, NoAny: -1}
}

func withMaps(c impl.PolCert, maps ...impl.PolMap) impl.PolCert {
	c.Maps = maps
	return c
}

func selfSays(policies ...int64) impl.PolCert {
	c := says(policies...)
	c.Self = true
	return c
}

func changedPol(c impl.PolCert, change func(c *impl.PolCert)) impl.PolCert {
	c.Policies, c.Maps = slices.Clone(c.Policies), slices.Clone(c.Maps)
	change(&c)
	return c
}

func pathOf(certs ...impl.PolCert) []impl.PolCert { return certs }

// slowPolCounters are the three counters, of needing, of maps and of any, ahead of each certificate and then behind
// the last one, by the document's words.
func slowPolCounters(path []impl.PolCert, need bool, noMap bool, noAny bool) [][3]int64 {
	first := [3]int64{int64(len(path)) + 1, int64(len(path)) + 1, int64(len(path)) + 1}
	for k, isZero := range []bool{need, noMap, noAny} {
		if isZero {
			first[k] = 0
		}
	}
	out := [][3]int64{first}
	for i, c := range path {
		next := out[i]
		for k := range next {
			if next[k] > 0 && !c.Self {
				next[k]--
			}
		}
		if i == len(path)-1 {
			if c.NeedPolicy == 0 {
				next[0] = 0
			}
			return append(out, next)
		}
		for k, n := range []int64{c.NeedPolicy, c.NoMap, c.NoAny} {
			if n != -1 && n < next[k] {
				next[k] = n
			}
		}
		out = append(out, next)
	}
	return out
}

// slowMeans is what p means at first, and behind each certificate that is not the last; and at last what holds there.
func slowMeans(path []impl.PolCert, p int64, noMap bool, noAny bool) map[int64]bool {
	counters := slowPolCounters(path, false, noMap, noAny)
	means := map[int64]bool{p: true}
	for i, c := range path {
		last := i == len(path)-1
		anyCounts := slices.Contains(c.Policies, 0) && (counters[i][2] > 0 || c.Self && !last)
		holds := map[int64]bool{}
		for q := range means {
			if anyCounts || slices.Contains(c.Policies, q) {
				holds[q] = true
			}
		}
		if last {
			return holds
		}
		means = map[int64]bool{}
		for q := range holds {
			isFrom := false
			for _, m := range c.Maps {
				if m.From == q {
					isFrom = true
					if counters[i][1] > 0 {
						means[m.To] = true
					}
				}
			}
			if !isFrom {
				means[q] = true
			}
		}
	}
	return nil
}

func slowHolds(path []impl.PolCert, p int64, noMap bool, noAny bool) bool {
	return len(slowMeans(path, p, noMap, noAny)) > 0
}

// isNamed tells whether p stands in some Policies or Maps of the path, or in initial.
func isNamed(path []impl.PolCert, initial []int64, p int64) bool {
	for _, c := range path {
		if slices.Contains(c.Policies, p) || slices.ContainsFunc(c.Maps, func(m impl.PolMap) bool { return m.From == p || m.To == p }) {
			return true
		}
	}
	return slices.Contains(initial, p)
}

// slowPolicies asks every policy that there is; path and initial are right.
func slowPolicies(path []impl.PolCert, initial []int64, need bool, noMap bool, noAny bool) ([]int64, bool) {
	told := make([]bool, 1001)
	for p := int64(1); p <= 1000; p++ {
		if slowHolds(path, p, noMap, noAny) {
			if isNamed(path, initial, p) {
				told[p] = true
			} else {
				told[0] = true
			}
		}
	}
	var out []int64
	for p := range int64(1001) {
		if told[p] && (slices.Contains(initial, 0) || slices.Contains(initial, p)) {
			out = append(out, p)
		}
	}
	if counters := slowPolCounters(path, need, noMap, noAny); counters[len(path)][0] == 0 && len(out) == 0 {
		return nil, false
	}
	return out, true
}

// anyPolPath is a right path of few policies, so that its certificates say much of the same ones.
func anyPolPath(r *rand.Rand) []impl.PolCert {
	most := oneOf(r, int64(3), 5, 1000)
	one := func() int64 { return oneOf(r, 1+r.Int63n(most), 1, 1000) }
	limit := func() int64 { return oneOf(r, -1, -1, -1, 0, 1, 2, 3, r.Int63n(11)) }
	var path []impl.PolCert
	for range oneOf(r, 1, 2, 3, 4, 8, 1+r.Intn(8)) {
		c := impl.PolCert{Self: r.Intn(4) == 0, NeedPolicy: limit(), NoMap: limit(), NoAny: limit()}
		if r.Intn(2) == 0 {
			c.Policies = append(c.Policies, 0)
		}
		for range r.Intn(6) {
			if p := one(); !slices.Contains(c.Policies, p) {
				c.Policies = append(c.Policies, p)
			}
		}
		if r.Intn(2) == 0 {
			for range r.Intn(7) {
				c.Maps = append(c.Maps, impl.PolMap{From: one(), To: one()})
			}
		}
		r.Shuffle(len(c.Policies), func(i int, j int) {
			c.Policies[i], c.Policies[j] = c.Policies[j], c.Policies[i]
		})
		path = append(path, c)
	}
	return path
}

func anyAsked(r *rand.Rand) []int64 {
	var out []int64
	for range oneOf(r, 1, 2, 3, 20, 1+r.Intn(20)) {
		out = append(out, oneOf(r, 1+r.Int63n(5), 1000, 1+r.Int63n(1000)))
	}
	if r.Intn(2) == 0 {
		out[r.Intn(len(out))] = 0
	}
	return out
}

// checkHolds holds PolicyHolds to want.
func checkHolds(t *testing.T, why string, want bool, path []impl.PolCert, p int64, noMap bool, noAny bool) {
	t.Helper()
	if got := impl.PolicyHolds(path, p, noMap, noAny); got != want {
		t.Error(why, "got", got, "of", p, noMap, noAny, path)
	}
}

// holdsJust holds PolicyHolds to just these policies of 1 .. 9, without noMap and noAny.
func holdsJust(t *testing.T, why string, path []impl.PolCert, want ...int64) {
	t.Helper()
	for p := int64(1); p <= 9; p++ {
		checkHolds(t, why, slices.Contains(want, p), path, p, false, false)
	}
}

// checkPolicies holds PathPolicies to an answer that is true and tells just want.
func checkPolicies(t *testing.T, why string, path []impl.PolCert, initial []int64, want ...int64) {
	t.Helper()
	if got, ok := impl.PathPolicies(path, initial, false, false, false); !ok || !slices.Equal(got, want) {
		t.Error(why, "got", got, ok, "want", want, "of", path, initial)
	}
}

func refused(got []int64, ok bool) bool { return !ok && len(got) == 0 }
