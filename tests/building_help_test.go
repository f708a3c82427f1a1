package tests

import (
	"cmp"
	"math/rand"
	"slices"
	"testing"

	"loop.example/g00041/impl"
)

// tie is a certificate of a pool: who issued it with which key, for whom and which key.
type tie struct {
	by      string
	byKey   int
	subject string
	key     int
}

func (x tie) cert(serial int64, ca bool) impl.Cert {
	c := plainLink(serial, partsOf(x.by), partsOf(x.subject), ca)
	c.Key = pubNo(x.key)
	return signedWith(c, x.byKey)
}

// poolOf are authorities, but the first, with the serials 1, 2 ..
func poolOf(ties ...tie) []impl.Cert {
	var out []impl.Cert
	for i, x := range ties {
		out = append(out, x.cert(int64(i+1), i > 0))
	}
	return out
}

func anchorOf(name string, key int) impl.Anchor {
	return impl.Anchor{Name: partsOf(name), Key: pubNo(key), Until: 1000}
}

func theRoot() []impl.Anchor { return []impl.Anchor{anchorOf("r", 0)} }

// slowEdges holds each pair against each other, and sorts behind that.
func slowEdges(pool []impl.Cert, anchors []impl.Anchor) []impl.Edge {
	var out []impl.Edge
	for i, c := range pool {
		for j, a := range pool {
			if i != j && impl.CertOk(c) && impl.CertOk(a) && impl.SameName(c.Issuer, a.Subject) && impl.VerifyAny(a.Key, slowCertBody(c), c.Sig) {
				out = append(out, impl.Edge{Above: int64(j), Below: int64(i)})
			}
		}
		for k, a := range anchors {
			if impl.CertOk(c) && impl.SameName(a.Name, c.Issuer) && impl.VerifyAny(a.Key, slowCertBody(c), c.Sig) {
				out = append(out, impl.Edge{Above: int64(-1 - k), Below: int64(i)})
			}
		}
	}
	slices.SortFunc(out, func(a impl.Edge, b impl.Edge) int {
		return cmp.Or(cmp.Compare(a.Below, b.Below), cmp.Compare(a.Above, b.Above))
	})
	return out
}

// found is what Find tells: the positions from the target back, and the anchor.
type found struct {
	back   []int64
	anchor int64
}

func foundInOrder(a found, b found) int {
	return cmp.Or(cmp.Compare(len(a.back), len(b.back)), slices.Compare(a.back, b.back), cmp.Compare(a.anchor, b.anchor))
}

// slowFound are all lists of unlike positions, with an anchor, that Check accepts.
func slowFound(pool []impl.Cert, anchors []impl.Anchor, q impl.Ask, back []int64) []found {
	var out []found
	var path []impl.Cert
	for _, at := range slices.Backward(back) {
		path = append(path, pool[at])
	}
	for k, a := range anchors {
		if code, _ := impl.Check(path, a, q); code == 0 {
			out = append(out, found{slices.Clone(back), int64(k)})
		}
	}
	if len(back) == impl.MaxPath {
		return out
	}
	for at := range int64(len(pool)) {
		if !slices.Contains(back, at) {
			out = append(out, slowFound(pool, anchors, q, append(slices.Clone(back), at))...)
		}
	}
	return out
}

func slowFindPath(pool []impl.Cert, anchors []impl.Anchor, target int64, q impl.Ask) ([]int64, int64, int64) {
	all := slowFound(pool, anchors, q, []int64{target})
	if len(all) == 0 {
		return nil, 0, impl.BdNone
	}
	best := slices.MinFunc(all, foundInOrder)
	slices.Reverse(best.back)
	return best.back, best.anchor, 0
}

func wantFound(t *testing.T, why string, pool []impl.Cert, anchors []impl.Anchor, target int64, q impl.Ask, anchor int64, positions ...int64) {
	t.Helper()
	got, k, code := impl.Find(pool, anchors, target, q)
	if code != 0 || k != anchor || !slices.Equal(got, positions) {
		t.Error(why, "got", got, k, code, "want", positions, anchor)
	}
}

func wantNone(t *testing.T, why string, want int64, pool []impl.Cert, anchors []impl.Anchor, target int64, q impl.Ask) {
	t.Helper()
	if got, k, code := impl.Find(pool, anchors, target, q); len(got) != 0 || k != 0 || code != want {
		t.Error(why, "got", got, k, code, "want", want)
	}
}

// anyPool are certificates of a few names and keys, some of them there twice, and some with a fault.
func anyPool(r *rand.Rand, most int) []impl.Cert {
	var out []impl.Cert
	names := []string{"r", "a", "b", "c", "d"}
	keyOf := func(n int) int {
		if r.Intn(15) == 0 {
			return n + 10
		}
		return n
	}
	for i := range r.Intn(most + 1) {
		if len(out) > 0 && r.Intn(8) == 0 {
			out = append(out, copyCert(oneOf(r, out...)))
			continue
		}
		subject := oneOf(r, 0, 1, 1, 2, 2, 3, 3, 4, 4)
		by := oneOf(r, max(0, subject-1), max(0, subject-1), r.Intn(len(names)))
		x := tie{by: names[by], byKey: keyOf(by), subject: names[subject], key: keyOf(subject)}
		c := x.cert(int64(i+1), r.Intn(6) > 0)
		c.Uses = 255
		if c.IsCA {
			c.Room = oneOf(r, -1, -1, -1, r.Int63n(3))
		}
		if r.Intn(12) == 0 {
			c.To = pathAt - 1
		}
		if c.IsCA && r.Intn(12) == 0 {
			c.Deny = gens(nameGen(oneOf(r, names...)))
		}
		c = signedWith(c, x.byKey)
		if r.Intn(20) == 0 {
			c.Serial = 0
		}
		out = append(out, c)
	}
	return out
}

func anyAnchors(r *rand.Rand, most int) []impl.Anchor {
	var out []impl.Anchor
	for range 1 + r.Intn(most) {
		n := oneOf(r, 0, 0, 0, 0, 1, 2)
		a := anchorOf([]string{"r", "a", "B"}[n], n)
		if r.Intn(5) == 0 {
			a.Until = pathFrom - 1
		}
		if r.Intn(5) == 0 {
			a.Deny = gens(nameGen(oneOf(r, "a", "b", "c")))
		}
		out = append(out, a)
	}
	return out
}
