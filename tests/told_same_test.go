package tests

import (
	"math/rand"
	"slices"
	"strconv"
	"testing"

	"loop.example/g00041/impl"
)

// An authority, the certificates that it issued, and its lists: the older one, and the one that holds.
type issued struct {
	secret impl.Secret
	pub    impl.Pub
	certs  []impl.Cert
	old    impl.Crl
	now    impl.Crl
}

const toldAt = 1500

// issueSome is an authority that took back certificates, by one list and by the next.
func issueSome(t *testing.T, r *rand.Rand, count int) issued {
	t.Helper()
	s := impl.Secret{Scheme: impl.ScGroup, X: uint64(anySecret(r))}
	p, _ := impl.PubOf(s)
	w := issued{secret: s, pub: p, old: ownList(3), now: ownList(3 + 1 + r.Int63n(9))}
	for i := range int64(count) {
		c := endCert()
		c.Issuer = oneOf(r, partsOf("An Authority"), partsOf("AN  authority"))
		c.Serial, c.Subject = 1+(1<<62-1)/int64(count)*i, partsOf("subject "+strconv.FormatInt(i, 10))
		c.To = toldAt
		cert, _, code := impl.IssueCert(c, s)
		if code != 0 {
			t.Fatal("not issued", code)
		}
		w.certs = append(w.certs, cert)
		before, behind := goneAt(c.Serial, r.Int63n(50), 1+r.Int63n(6)), goneAt(c.Serial, r.Int63n(50), 1+r.Int63n(6))
		switch r.Intn(8) {
		case 0: // it stays on
			w.old.Entries, w.now.Entries = append(w.old.Entries, before), append(w.now.Entries, before)
		case 1: // it changed
			w.old.Entries, w.now.Entries = append(w.old.Entries, before), append(w.now.Entries, behind)
		case 2: // it is new
			w.now.Entries = append(w.now.Entries, behind)
		case 3: // it is off again
			w.old.Entries = append(w.old.Entries, before)
		}
	}
	return w
}

func signedBySecret(t *testing.T, l impl.Crl, w issued) impl.Crl {
	t.Helper()
	out, _, code := impl.SignCrl(l, w.secret)
	if code != 0 || !impl.CrlSigned(out, w.pub) {
		t.Fatal("not signed", l, code)
	}
	return out
}

// tellers are the forms in which the lists of an authority can be told.
func tellers(t *testing.T, r *rand.Rand, w issued) map[string][]impl.Crl {
	t.Helper()
	delta, code := impl.MakeDelta(w.old, w.now)
	if code != 0 {
		t.Fatal("no delta", code)
	}
	applied, code := impl.ApplyDelta(signedBySecret(t, w.old, w), signedBySecret(t, delta, w))
	if code != 0 {
		t.Fatal("not applied", code)
	}
	out := map[string][]impl.Crl{
		"the full list": {w.now}, "the list before it with what changed": {applied}, "a list for others": {forOthers(w.now)},
		"two lists by reasons": inTwo(r, w.now), "all of them": append(inTwo(r, w.now), forOthers(w.now), applied),
	}
	for why, lists := range out {
		for i := range lists {
			lists[i] = signedBySecret(t, lists[i], w)
		}
		out[why] = shuffled(r, lists)
	}
	return out
}

// pathsTellToo asks a path of one certificate, and a search for one, what lists say of it.
func pathsTellToo(t *testing.T, why string, w issued, c impl.Cert, lists []impl.Crl, isGone bool) {
	t.Helper()
	a := impl.Anchor{Name: partsOf("an authority"), Key: w.pub, Until: impl.MaxTime}
	q := impl.Ask{At: toldAt, Policies: []int64{0}, Lists: lists}
	wantCode, wantFind := int64(0), int64(0)
	if isGone {
		wantCode, wantFind = impl.PcGone, impl.BdNone
	}
	for _, hard := range []bool{false, true} {
		q.Hard = hard
		if code, at := impl.Check([]impl.Cert{c}, a, q); code != wantCode || at != 0 {
			t.Fatal(why, "a path says", code, at, "want", wantCode)
		}
		if _, _, code := impl.Find([]impl.Cert{c}, []impl.Anchor{a}, 0, q); code != wantFind {
			t.Fatal(why, "a search says", code, "want", wantFind)
		}
	}
	q.Lists = nil
	if code, _ := impl.Check([]impl.Cert{c}, a, q); code != impl.PcUnknown {
		t.Fatal("without lists it is", code)
	}
}

func TestAllFormsTellTheSameCertificatesAsGone(t *testing.T) {
	r := rand.New(rand.NewSource(121))
	for _, count := range []int{0, 1, 2, 5, 20, 60, 60} {
		w := issueSome(t, r, count)
		var gone, good []uint64
		for _, c := range w.certs {
			if slices.ContainsFunc(w.now.Entries, func(g impl.Gone) bool { return g.Serial == c.Serial }) {
				gone = append(gone, impl.Finger(c))
			} else {
				good = append(good, impl.Finger(c))
			}
		}
		cascade := checkCascade(t, gone, good)
		b, _ := impl.CascadeBytes(cascade)
		read, code := impl.ReadCascade(b)
		if code != 0 {
			t.Fatal("the cascade is not read back", code)
		}
		for why, lists := range tellers(t, r, w) {
			for _, c := range w.certs {
				stand := impl.Standing(lists, c.Issuer, c.Serial, toldAt)
				want := impl.Standing([]impl.Crl{w.now}, c.Issuer, c.Serial, toldAt)
				isGone := slices.Contains(gone, impl.Finger(c))
				if stand != want || (stand.State == impl.StGone) != isGone || !isGone && stand != (impl.Stand{}) {
					t.Fatal(why, "says", stand, "want", want, isGone)
				}
				reply, _, code := impl.Answer(lists, c.Issuer, c.Serial, []byte{5}, toldAt, 60, w.secret)
				if code != 0 || reply.Stand != want || impl.ReplyCheck(reply, w.pub, c.Issuer, c.Serial, []byte{5}, toldAt) != 0 {
					t.Fatal(why, "the answer says", reply, code, "want", want)
				}
				pathsTellToo(t, why, w, c, lists, isGone)
				if impl.InCascade(cascade, impl.Finger(c)) != isGone || impl.InCascade(read, impl.Finger(c)) != isGone {
					t.Fatal("the cascade says otherwise of", c)
				}
			}
		}
	}
}
