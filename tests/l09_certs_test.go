package tests

import (
	"bytes"
	"math"
	"math/rand"
	"slices"
	"strings"
	"testing"

	"loop.example/g00041/impl"
)

// certCase is a certificate and whether it is right.
type certCase struct {
	why  string
	c    impl.Cert
	want bool
}

func changed(c impl.Cert, change func(c *impl.Cert)) impl.Cert {
	change(&c)
	return c
}

// numberCases put each number where the limits of a field are, and tell which are right.
func numberCases(why string, base impl.Cert, field func(c *impl.Cert) *int64, right []int64, wrong []int64) []certCase {
	var out []certCase
	for _, n := range right {
		out = append(out, certCase{why, changed(base, func(c *impl.Cert) { *field(c) = n }), true})
	}
	for _, n := range append(wrong, math.MinInt64, math.MaxInt64) {
		out = append(out, certCase{why, changed(base, func(c *impl.Cert) { *field(c) = n }), false})
	}
	return out
}

func numberFieldCases() []certCase {
	end, ca := endCert(), caCert()
	out := slices.Concat(
		numberCases("Serial", end, func(c *impl.Cert) *int64 { return &c.Serial }, []int64{1, 2, 1 << 61, 1<<62 - 1, 1 << 62}, []int64{-1, 0, 1<<62 + 1}),
		numberCases("From", end, func(c *impl.Cert) *int64 { return &c.From }, []int64{0, 1, 199, 200}, []int64{-1, 201, impl.MaxTime, impl.MaxTime + 1}),
		numberCases("To", end, func(c *impl.Cert) *int64 { return &c.To }, []int64{100, 101, impl.MaxTime - 1, impl.MaxTime}, []int64{-1, 0, 99, impl.MaxTime + 1}),
		numberCases("Uses", end, func(c *impl.Cert) *int64 { return &c.Uses }, []int64{0, 1, 254, 255}, []int64{-1, 256, 257}),
		numberCases("Uses of an authority", ca, func(c *impl.Cert) *int64 { return &c.Uses }, []int64{0, 255}, []int64{-1, 256}),
	)
	limits := []struct {
		why   string
		field func(c *impl.Cert) *int64
	}{
		{"Room", func(c *impl.Cert) *int64 { return &c.Room }},
		{"NeedPolicy", func(c *impl.Cert) *int64 { return &c.NeedPolicy }},
		{"NoMap", func(c *impl.Cert) *int64 { return &c.NoMap }},
		{"NoAny", func(c *impl.Cert) *int64 { return &c.NoAny }},
	}
	for _, row := range limits {
		out = append(out, numberCases(row.why, ca, row.field, []int64{-1, 0, 1, 9, 10}, []int64{-2, 11})...)
		out = append(out, numberCases(row.why+" of no authority", end, row.field, []int64{-1}, []int64{-2, 0, 1, 10, 11})...)
	}
	return out
}

func timeCases() []certCase {
	rows := []struct {
		from, to int64
		want     bool
	}{
		{0, 0, true}, {0, 1, true}, {1, 0, false}, {5, 5, true}, {6, 5, false}, {0, impl.MaxTime, true}, {impl.MaxTime, impl.MaxTime, true},
		{impl.MaxTime, impl.MaxTime - 1, false}, {impl.MaxTime, impl.MaxTime + 1, false}, {impl.MaxTime + 1, impl.MaxTime + 1, false},
		{-1, -1, false}, {-1, 0, false}, {-2, -1, false},
	}
	var out []certCase
	for _, row := range rows {
		out = append(out, certCase{"a time", changed(endCert(), func(c *impl.Cert) { c.From, c.To = row.from, row.to }), row.want})
	}
	return out
}

func nameCases() []certCase {
	bad := onePart(21, "a")
	long := partsOf(slices.Repeat([]string{"a"}, 9)...)
	with := func(issuer impl.Name, subject impl.Name, names ...impl.GenName) impl.Cert {
		return changed(endCert(), func(c *impl.Cert) { c.Issuer, c.Subject, c.Names = issuer, subject, names })
	}
	a, none := partsOf("a"), impl.Name{}
	return []certCase{
		{"Issuer and Subject", with(a, a), true},
		{"eight parts", with(partsOf(slices.Repeat([]string{"a"}, 8)...), partsOf(slices.Repeat([]string{"b"}, 8)...)), true},
		{"no Issuer", with(none, a), false},
		{"an Issuer of empty Parts", with(impl.Name{Parts: []impl.Part{}}, a), false},
		{"no Issuer, but Names", with(none, a, hostGen("a")), false},
		{"an Issuer that is no name", with(bad, a), false},
		{"an Issuer of nine parts", with(long, a), false},
		{"no Subject", with(a, none), false},
		{"a Subject of empty Parts", with(a, impl.Name{Parts: []impl.Part{}}), false},
		{"no Subject, but a name", with(a, none, hostGen("a")), true},
		{"no Subject, but a name that is none", with(a, none, hostGen("")), false},
		{"a Subject that is no name", with(a, bad), false},
		{"a Subject that is no name, and a name", with(a, bad, hostGen("a")), false},
		{"a Subject of nine parts", with(a, long, hostGen("a")), false},
		{"nobody at all", with(none, none), false},
		{"two names alike", with(a, none, hostGen("a"), hostGen("a")), true},
		{"no CA, without a Subject, no names", changed(caCert(), func(c *impl.Cert) { c.Subject, c.Names = none, nil }), false},
		{"an authority without Names", changed(caCert(), func(c *impl.Cert) { c.Names = nil }), true},
		{"an authority without a Subject", changed(caCert(), func(c *impl.Cert) { c.Subject = none }), true},
	}
}

func genCases() []certCase {
	lists := []struct {
		why  string
		list func(c *impl.Cert) *[]impl.GenName
		base bool
	}{
		{"Names", func(c *impl.Cert) *[]impl.GenName { return &c.Names }, false},
		{"Permit", func(c *impl.Cert) *[]impl.GenName { return &c.Permit }, true},
		{"Deny", func(c *impl.Cert) *[]impl.GenName { return &c.Deny }, true},
	}
	var out []certCase
	for _, row := range lists {
		put := func(list ...impl.GenName) impl.Cert {
			return changed(caCert(), func(c *impl.Cert) { *row.list(c) = list })
		}
		out = append(out,
			certCase{row.why + " none", put(), true},
			certCase{row.why + " one", put(hostGen("a.b")), true},
			certCase{row.why + " MaxNames", put(slices.Repeat([]impl.GenName{hostGen("a.b")}, 8)...), true},
			certCase{row.why + " one more", put(slices.Repeat([]impl.GenName{hostGen("a.b")}, 9)...), false},
			certCase{row.why + " many", put(slices.Repeat([]impl.GenName{hostGen("a.b")}, 5000)...), false},
			certCase{row.why + " the zero value", put(impl.GenName{}), false},
			certCase{row.why + " of another kind", put(impl.GenName{Kind: 5, Text: "a"}), false},
			certCase{row.why + " with more than is named", put(impl.GenName{Kind: impl.GnHost, Text: "a", Addr: 1}), false},
			certCase{row.why + " the last is none", put(hostGen("a"), hostGen("b"), hostGen("-")), false},
			certCase{row.why + " the first is none", put(hostGen("-"), hostGen("b"), hostGen("a")), false},
			certCase{row.why + " a wild host", put(hostGen("*.a.b")), !row.base},
			certCase{row.why + " an empty name", put(impl.GenName{Kind: impl.GnName}), row.base},
			certCase{row.why + " a host of mail", put(mailGen("a.b")), row.base},
			certCase{row.why + " an address with bits", put(addrGen(1<<31, 1)), row.base},
			certCase{row.why + " an address", put(addrGen(1<<32-1, 0)), !row.base},
			certCase{row.why + " an address that is too great", put(addrGen(1<<32, 0)), false},
		)
		for _, g := range []impl.GenName{hostGen("a"), {}} {
			end := changed(endCert(), func(c *impl.Cert) { *row.list(c) = []impl.GenName{g} })
			out = append(out, certCase{row.why + " of no authority", end, !row.base && g.Kind == impl.GnHost})
		}
	}
	return out
}

func policyCases() []certCase {
	var out []certCase
	for _, base := range []impl.Cert{endCert(), caCert()} {
		put := func(list ...int64) impl.Cert {
			return changed(base, func(c *impl.Cert) { c.Policies = list })
		}
		out = append(out,
			certCase{"no policy", put(), true}, certCase{"any", put(0), true}, certCase{"the policy 1", put(1), true}, certCase{"the policy 1000", put(1000), true},
			certCase{"the policy 1001", put(1001), false}, certCase{"the policy -1", put(-1), false}, certCase{"a great policy", put(1<<32 + 5), false},
			certCase{"MaxPols policies", put(6, 5, 4, 0, 2, 1), true}, certCase{"one more", put(6, 5, 4, 0, 2, 1, 7), false},
			certCase{"two alike, side by side", put(1, 1), false}, certCase{"two alike, the first and the last", put(4, 1, 2, 3, 5, 4), false},
			certCase{"any twice", put(0, 3, 0), false}, certCase{"the last is none", put(1, 2, 1001), false}, certCase{"the first is none", put(-1, 2), false},
			certCase{"many", put(oneTo(900)...), false},
		)
	}
	put := func(list ...impl.PolMap) impl.Cert {
		return changed(caCert(), func(c *impl.Cert) { c.Maps = list })
	}
	pair := func(from int64, to int64) impl.PolMap { return impl.PolMap{From: from, To: to} }
	return append(out,
		certCase{"no map", put(), true}, certCase{"the least map", put(pair(1, 1)), true}, certCase{"the greatest map", put(pair(1000, 1000)), true},
		certCase{"MaxPols maps, all alike", put(slices.Repeat([]impl.PolMap{pair(1, 2)}, 6)...), true}, certCase{"one more", put(slices.Repeat([]impl.PolMap{pair(1, 2)}, 7)...), false},
		certCase{"a map from 0", put(pair(0, 1)), false}, certCase{"a map to 0", put(pair(1, 0)), false},
		certCase{"a map from 1001", put(pair(1001, 1)), false}, certCase{"a map to 1001", put(pair(1, 1001)), false},
		certCase{"a map from -1", put(pair(-1, 1)), false}, certCase{"a map to -1", put(pair(1, -1)), false},
		certCase{"the last map is none", put(pair(1, 2), pair(3, 0)), false}, certCase{"the first map is none", put(pair(0, 3), pair(1, 2)), false},
		certCase{"a map of no authority", changed(endCert(), func(c *impl.Cert) { c.Maps = []impl.PolMap{pair(1, 2)} }), false},
		certCase{"a list of no maps of no authority", changed(endCert(), func(c *impl.Cert) { c.Maps = []impl.PolMap{} }), true},
	)
}

func extCases() []certCase {
	var out []certCase
	for _, base := range []impl.Cert{endCert(), caCert()} {
		put := func(ids ...int64) impl.Cert {
			return changed(base, func(c *impl.Cert) {
				c.Exts = nil
				for _, id := range ids {
					c.Exts = append(c.Exts, impl.Ext{Id: id})
				}
			})
		}
		valued := func(size int, ahead ...impl.Ext) impl.Cert {
			return changed(base, func(c *impl.Cert) { c.Exts = append(ahead, impl.Ext{Id: 9, Value: make([]byte, size)}) })
		}
		signed := func(size int) impl.Cert {
			return changed(base, func(c *impl.Cert) { c.Sig = make([]byte, size) })
		}
		out = append(out,
			certCase{"no Exts", put(), true}, certCase{"the Id 0", put(0), false}, certCase{"the Id -1", put(-1), false}, certCase{"the Id 1", put(1), true},
			certCase{"the Id 1000", put(1000), true}, certCase{"the Id 1001", put(1001), false}, certCase{"a great Id", put(1<<32 + 1), false}, certCase{"the greatest Id", put(math.MaxInt64), false},
			certCase{"MaxExts Exts", put(1, 2, 3, 4), true}, certCase{"one more", put(1, 2, 3, 4, 5), false}, certCase{"rising up to the most", put(1, 999, 1000), true},
			certCase{"rising past the most", put(1, 1000, 1001), false}, certCase{"two Ids alike", put(2, 2), false}, certCase{"two Ids alike at last", put(1, 2, 3, 3), false},
			certCase{"Ids that fall", put(2, 1), false}, certCase{"Ids that fall at last", put(1, 5, 4), false}, certCase{"the first Id again", put(3, 4, 3), false}, certCase{"0 first", put(0, 1), false},
			certCase{"a Value of 30", valued(30), true}, certCase{"a Value of 31", valued(31), false}, certCase{"no Value", valued(0), true},
			certCase{"the last Value of 31", valued(31, impl.Ext{Id: 1}), false}, certCase{"the first Value of 31", valued(0, impl.Ext{Id: 1, Value: make([]byte, 31)}), false},
			certCase{"critical", changed(base, func(c *impl.Cert) { c.Exts = []impl.Ext{{Id: 1, Critical: true}} }), true},
			certCase{"no Sig", signed(0), true}, certCase{"a Sig of MaxSig", signed(impl.MaxSig), true}, certCase{"a Sig of one more", signed(impl.MaxSig + 1), false},
		)
	}
	return out
}

func keyCases() []certCase {
	put := func(scheme int64, y uint64, height int64) impl.Cert {
		return changed(endCert(), func(c *impl.Cert) { c.Key = impl.Pub{Scheme: scheme, Y: y, Height: height} })
	}
	out := []certCase{
		{"a key of the group", put(1, 4, 0), true}, {"the key of Q - 1", put(1, 250000002, 0), true}, {"a key with a Height", put(1, 4, 1), false},
		{"a tree", put(2, 0, 0), true}, {"a high tree", put(2, math.MaxUint64, 5), true}, {"a tree that is too high", put(2, 7, 6), false}, {"a tree below 0", put(2, 7, -1), false},
		{"no scheme", put(0, 4, 0), false}, {"another scheme", put(3, 4, 0), false}, {"a scheme below 0", put(-1, 4, 0), false}, {"no key", put(0, 0, 0), false},
		{"a key of the group, too great", put(1, 4+1<<63, 0), false}, {"a key of the group, and P", put(1, 4+impl.P, 0), false},
	}
	for _, y := range noKeys {
		out = append(out, certCase{"no key of the group", put(1, uint64(y), 0), false})
	}
	return out
}

func authorityCases() []certCase {
	bare := changed(endCert(), func(c *impl.Cert) { c.IsCA = true })
	full := changed(caCert(), func(c *impl.Cert) { c.IsCA = false })
	out := []certCase{
		{"an authority with nothing more", bare, true},
		{"no authority, with all of one", full, false},
		{"the zero value", impl.Cert{}, false},
		{"an authority", caCert(), true},
		{"no authority", endCert(), true},
		{"as much as may be", greatCert(), true},
	}
	// Each of these is all that is too much where IsCA is not said.
	less := changed(full, func(c *impl.Cert) {
		c.Room, c.NeedPolicy, c.NoMap, c.NoAny, c.Permit, c.Deny, c.Maps = -1, -1, -1, -1, nil, nil, nil
	})
	out = append(out, certCase{"without IsCA, and without what it says", less, true})
	for i, put := range []func(c *impl.Cert){
		func(c *impl.Cert) { c.Room = 0 },
		func(c *impl.Cert) { c.NeedPolicy = 0 },
		func(c *impl.Cert) { c.NoMap = 0 },
		func(c *impl.Cert) { c.NoAny = 0 },
		func(c *impl.Cert) { c.Permit = []impl.GenName{hostGen("a")} },
		func(c *impl.Cert) { c.Deny = []impl.GenName{hostGen("a")} },
		func(c *impl.Cert) { c.Maps = []impl.PolMap{{From: 1, To: 1}} },
	} {
		out = append(out, certCase{"without IsCA, but field " + string(rune('a'+i)), changed(less, put), false})
	}
	return out
}

func certCases() []certCase {
	return slices.Concat(numberFieldCases(), timeCases(), nameCases(), genCases(), policyCases(), extCases(), keyCases(), authorityCases())
}

func TestCertConstants(t *testing.T) {
	got := []int64{impl.MaxNames, impl.MaxPols, impl.MaxExts, impl.MaxSig, impl.CForm, impl.CBad, impl.UsSign, impl.UsCert, impl.UsCrl, impl.UsServer, impl.UsClient, impl.UsStamp, impl.UsReply, impl.UsLog}
	if !slices.Equal(got, []int64{8, 6, 4, 500, 30, 31, 1, 2, 4, 8, 16, 32, 64, 128}) {
		t.Error(got)
	}
}

func TestCertOk(t *testing.T) {
	for _, row := range certCases() {
		if got := impl.CertOk(row.c); got != row.want {
			t.Errorf("%s: got %v, want %v: %v", row.why, got, row.want, row.c)
		}
	}
}

// checkReadBack holds a certificate that is right to its bytes, both ways.
func checkReadBack(t *testing.T, why string, c impl.Cert) {
	t.Helper()
	want := slowCert(c)
	if b, ok := impl.CertBytes(c); !ok || !bytes.Equal(b, want) {
		t.Fatalf("%s: CertBytes %v %v, want %v: %v", why, b, ok, want, c)
	}
	if b, ok := impl.CertBody(c); !ok || !bytes.Equal(b, slowCertBody(c)) {
		t.Fatalf("%s: CertBody %v %v, want %v: %v", why, b, ok, slowCertBody(c), c)
	}
	if got, code := impl.ReadCert(want); code != 0 || !sameCert(got, c) {
		t.Fatalf("%s: ReadCert %v %v, want %v", why, got, code, c)
	}
	if got := impl.Finger(c); got != impl.Hash(want) || got == 0 {
		t.Fatalf("%s: Finger %v", why, got)
	}
}

// checkNoBytes holds a certificate that is not right to having no bytes, and to being read from none.
func checkNoBytes(t *testing.T, why string, c impl.Cert) {
	t.Helper()
	if b, ok := impl.CertBytes(c); ok || len(b) > 0 {
		t.Errorf("%s: CertBytes %v: %v", why, b, c)
	}
	if b, ok := impl.CertBody(c); ok || len(b) > 0 {
		t.Errorf("%s: CertBody %v: %v", why, b, c)
	}
	if got := impl.Finger(c); got != 0 {
		t.Errorf("%s: Finger %v: %v", why, got, c)
	}
	b := slowCert(c)
	want := int64(impl.CForm)
	if len(b) > impl.MaxBytes {
		want = impl.TLong
	}
	if got, code := impl.ReadCert(b); code != want || !noCert(got) {
		t.Errorf("%s: ReadCert %v %v, want %v: %v", why, got, code, want, c)
	}
}

func TestCertsAndTheirBytes(t *testing.T) {
	for _, row := range certCases() {
		if row.want {
			checkReadBack(t, row.why, row.c)
		} else {
			checkNoBytes(t, row.why, row.c)
		}
	}
	r := rand.New(rand.NewSource(91))
	for range 600 {
		c := anyCert(r)
		if !impl.CertOk(c) {
			t.Fatal("not right", c)
		}
		checkReadBack(t, "any", c)
	}
}

func TestAPlainCertIsWrittenAsTold(t *testing.T) {
	c := impl.Cert{Serial: 200, Issuer: onePart(3, "I"), From: 1, To: 128, Key: impl.Pub{Scheme: impl.ScTree, Y: 258, Height: 1}, IsCA: true, Uses: 255, Room: 2, NeedPolicy: -1, NoMap: 0, NoAny: 10}
	c.Names = []impl.GenName{hostGen("h")}
	c.Permit = []impl.GenName{addrGen(1<<31, 1)}
	c.Policies = []int64{0, 300}
	c.Maps = []impl.PolMap{{From: 1, To: 2}}
	c.Exts = []impl.Ext{{Id: 9, Critical: true, Value: []byte{7}}}
	c.Sig = []byte{6}
	inner := slices.Concat(
		[]byte{2, 2, 0, 200},
		[]byte{48, 10, 49, 8, 48, 6, 2, 1, 3, 4, 1, 'I'},
		[]byte{48, 2, 49, 0},
		[]byte{2, 1, 1}, []byte{2, 2, 0, 128},
		[]byte{48, 16, 2, 1, 2, 4, 8, 0, 0, 0, 0, 0, 0, 1, 2, 2, 1, 1},
		[]byte{1, 1, 255}, []byte{2, 1, 2}, []byte{2, 2, 0, 255},
		[]byte{49, 18, 48, 16, 2, 1, 1, 4, 1, 'h', 2, 1, 0, 2, 1, 0, 48, 2, 49, 0},
		[]byte{49, 21, 48, 19, 2, 1, 3, 4, 0, 2, 5, 0, 128, 0, 0, 0, 2, 1, 1, 48, 2, 49, 0},
		[]byte{49, 0},
		[]byte{49, 7, 2, 1, 0, 2, 2, 1, 44},
		[]byte{49, 8, 48, 6, 2, 1, 1, 2, 1, 2},
		[]byte{2, 1, 255}, []byte{2, 1, 0}, []byte{2, 1, 10},
		[]byte{49, 11, 48, 9, 2, 1, 9, 1, 1, 255, 4, 1, 7},
	)
	body := append([]byte{97, 129, byte(len(inner))}, inner...)
	all := slices.Concat([]byte{98, 129, byte(len(body) + 3)}, body, []byte{4, 1, 6})
	if b, ok := impl.CertBody(c); !ok || !bytes.Equal(b, body) {
		t.Error("body", b, ok, "want", body)
	}
	if b, ok := impl.CertBytes(c); !ok || !bytes.Equal(b, all) {
		t.Error("bytes", b, ok, "want", all)
	}
	if got, code := impl.ReadCert(all); code != 0 || !sameCert(got, c) {
		t.Error("read", got, code)
	}
}

func TestTheGreatestCertHasRoom(t *testing.T) {
	b, ok := impl.CertBytes(greatCert())
	if !ok || len(b) > impl.MaxBytes || len(b) < impl.MaxBytes/2 {
		t.Error(len(b), ok)
	}
}

// checkOther holds bytes that are not those of c to what ReadCert may say of them.
func checkOther(t *testing.T, c impl.Cert, b []byte) {
	t.Helper()
	got, code := impl.ReadCert(b)
	if code == 0 {
		if again, ok := impl.CertBytes(got); !ok || !bytes.Equal(again, b) || !bytes.Equal(slowCert(got), b) || sameCert(got, c) {
			t.Fatal("read as a certificate:", b, got)
		}
		return
	}
	want := int64(impl.CForm)
	if _, of, _ := impl.ReadItem(b, false); of != 0 {
		want = of
	}
	if code != want || !noCert(got) {
		t.Fatal("got", got, code, "want", want, "of", b)
	}
}

func TestBeginningsOfACertAndBytesBehindIt(t *testing.T) {
	for _, c := range []impl.Cert{endCert(), caCert(), greatCert()} {
		b, _ := impl.CertBytes(c)
		for cut := range b {
			if cut > 400 && cut%37 != 0 && cut < len(b)-20 {
				continue
			}
			if got, code := impl.ReadCert(b[:cut]); code != impl.TShort || !noCert(got) {
				t.Fatal("cut at", cut, got, code)
			}
		}
		for more := range 256 {
			if got, code := impl.ReadCert(append(bytes.Clone(b), byte(more))); code != impl.TTrail || !noCert(got) {
				t.Fatal("with", more, "behind:", got, code)
			}
		}
		if got, code := impl.ReadCert(slices.Concat(b, b[:0], make([]byte, impl.MaxBytes+1-len(b)))); code != impl.TLong || !noCert(got) {
			t.Error("too long", got, code)
		}
		if got, code := impl.ReadCert(slices.Concat(b, make([]byte, impl.MaxBytes-len(b)))); code != impl.TTrail || !noCert(got) {
			t.Error("just as long as may be", got, code)
		}
	}
	if got, code := impl.ReadCert(nil); code != impl.TShort || !noCert(got) {
		t.Error("no bytes", got, code)
	}
}

func TestEveryByteOfACertTurned(t *testing.T) {
	var all []byte
	for by := 1; by < 256; by++ {
		all = append(all, byte(by))
	}
	few := []byte{1, 2, 3, 4, 8, 16, 32, 33, 64, 128, 129, 255}
	rows := []struct {
		c     impl.Cert
		step  int
		turns []byte
	}{{endCert(), 1, all}, {caCert(), 1, few}, {greatCert(), 97, few[:3]}}
	for _, row := range rows {
		b, _ := impl.CertBytes(row.c)
		for i := 0; i < len(b); i += row.step {
			for _, by := range row.turns {
				other := bytes.Clone(b)
				other[i] ^= by
				checkOther(t, row.c, other)
			}
		}
	}
}

func TestAnyBytesAroundACert(t *testing.T) {
	r := rand.New(rand.NewSource(92))
	for range 4000 {
		c := anyCert(r)
		c.Sig = c.Sig[:min(4, len(c.Sig))]
		b := slowCert(c)
		if other := scrambled(r, b); !bytes.Equal(other, b) {
			checkOther(t, c, other)
		}
	}
}

// itemsOf are all items of x, x first, to be changed where they stand.
func itemsOf(x *impl.Item) []*impl.Item {
	out := []*impl.Item{x}
	for i := range x.Kids {
		out = append(out, itemsOf(&x.Kids[i])...)
	}
	return out
}

// bent are the bytes of x with the item at a place changed; none when that is no item.
func bent(x impl.Item, place int, change func(x *impl.Item)) []byte {
	x = copyItem(x)
	change(itemsOf(&x)[place])
	b, _ := impl.ItemBytes(x)
	return b
}

func TestItemsThatAreNoCert(t *testing.T) {
	for _, c := range []impl.Cert{endCert(), caCert()} {
		b, _ := impl.CertBytes(c)
		x, _, _ := impl.ReadItem(b, false)
		for place := range itemsOf(&x) {
			for class := range int64(4) {
				refuseBent(t, x, place, func(y *impl.Item) { y.Class = class })
			}
			for _, tag := range []int64{1, 2, 3, 4, 5, 10, 12, 16, 17, 18, 31, 1000, impl.MaxTag} {
				refuseBent(t, x, place, func(y *impl.Item) { y.Tag = tag })
			}
			refuseBent(t, x, place, func(y *impl.Item) { y.Cons, y.Body, y.Kids = !y.Cons, nil, nil })
			refuseBent(t, x, place, func(y *impl.Item) {
				*y = impl.Item{Tag: 16, Cons: true, Kids: []impl.Item{copyItem(*y)}}
			})
			refuseBent(t, x, place, func(y *impl.Item) {
				*y = impl.Item{Tag: 17, Cons: true, Kids: []impl.Item{copyItem(*y)}}
			})
		}
	}
}

// refuseBent wants CForm of every item that a change makes of x, and leaves out a change that makes x itself.
func refuseBent(t *testing.T, x impl.Item, place int, change func(x *impl.Item)) {
	t.Helper()
	same, _ := impl.ItemBytes(x)
	b := bent(x, place, change)
	if len(b) == 0 || bytes.Equal(b, same) {
		return
	}
	if got, code := impl.ReadCert(b); code != impl.CForm || !noCert(got) {
		t.Fatal("place", place, "got", got, code, "of", b)
	}
}

func TestFieldsOfACertLeftOutDoubledOrChanged(t *testing.T) {
	for _, c := range []impl.Cert{endCert(), caCert()} {
		b, _ := impl.CertBytes(c)
		x, _, _ := impl.ReadItem(b, false)
		for place, y := range itemsOf(&x) {
			for k := range y.Kids {
				changes := []func(z *impl.Item){
					func(z *impl.Item) { z.Kids = slices.Delete(z.Kids, k, k+1) },
					func(z *impl.Item) { z.Kids = slices.Insert(z.Kids, k, copyItem(z.Kids[k])) },
					func(z *impl.Item) { z.Kids = z.Kids[:k] },
					func(z *impl.Item) { z.Kids = append(z.Kids, copyItem(z.Kids[k])) },
					func(z *impl.Item) { z.Kids = slices.Insert(z.Kids, k, impl.Item{Tag: 2, Body: []byte{1}}) },
				}
				for _, change := range changes {
					if y.Tag != 17 {
						refuseBent(t, x, place, change)
					} else {
						checkOther(t, c, bent(x, place, change))
					}
				}
			}
			if y.Cons && y.Tag != 17 {
				refuseBent(t, x, place, func(z *impl.Item) { z.Kids = nil })
				refuseBent(t, x, place, func(z *impl.Item) { z.Kids = append(z.Kids, impl.Item{Tag: 4}) })
				refuseBent(t, x, place, func(z *impl.Item) { z.Kids = append(z.Kids, impl.Item{Tag: 17, Cons: true}) })
			}
		}
	}
}

func TestNumbersAndFlagsInAnotherForm(t *testing.T) {
	for _, c := range []impl.Cert{endCert(), caCert()} {
		b, _ := impl.CertBytes(c)
		x, _, _ := impl.ReadItem(b, false)
		for place, y := range itemsOf(&x) {
			switch {
			case y.Tag == 2 && y.Class == 0:
				sign := byte(0)
				if y.Body[0] >= 128 {
					sign = 255
				}
				for ahead := 1; ahead < 9; ahead++ {
					refuseBent(t, x, place, func(z *impl.Item) { z.Body = append(bytes.Repeat([]byte{sign}, ahead), z.Body...) })
				}
				refuseBent(t, x, place, func(z *impl.Item) { z.Body = nil })
				refuseBent(t, x, place, func(z *impl.Item) { z.Body = append([]byte{^sign}, z.Body...) })
			case y.Tag == 1 && y.Class == 0:
				for _, body := range [][]byte{nil, {1}, {2}, {127}, {128}, {254}, {0, 0}, {255, 255}, {0, 255}} {
					refuseBent(t, x, place, func(z *impl.Item) { z.Body = body })
				}
			}
		}
	}
}

func TestTheKeyOfACertHasEightBytes(t *testing.T) {
	for _, c := range []impl.Cert{endCert(), caCert()} {
		fields := slowCertFields(c)
		y := eight(c.Key.Y)
		for _, other := range [][]byte{nil, y[:1], y[:7], y[1:], append(bytes.Clone(y), 0), append([]byte{0}, y...), bytes.Repeat(y, 2)} {
			fields[5] = slowStruct(slowNumber(c.Key.Scheme), slowText(string(other)), slowNumber(c.Key.Height))
			b := around(98, around(97, fields...), slowText("s"))
			if got, code := impl.ReadCert(b); code != impl.CForm || !noCert(got) {
				t.Error(other, got, code)
			}
		}
	}
}

func TestLaxFormsOfACertAreNotRead(t *testing.T) {
	r := rand.New(rand.NewSource(93))
	for _, c := range []impl.Cert{endCert(), caCert()} {
		b, _ := impl.CertBytes(c)
		x, _, _ := impl.ReadItem(b, false)
		for range 200 {
			lax := laxBytes(r, x)
			_, want, _ := impl.ReadItem(lax, false)
			if got, code := impl.ReadCert(lax); code != want || code == 0 || !noCert(got) {
				t.Fatal("got", got, code, "want", want, "of", lax)
			}
		}
	}
	for _, list := range [][]byte{{4, 0}, {48, 0}, {97, 0}, {98, 0}, {98, 4, 97, 0, 4, 0}, {2, 1, 5}, {99, 2, 97, 0}} {
		if got, code := impl.ReadCert(list); code != impl.CForm || !noCert(got) {
			t.Error(list, got, code)
		}
	}
}

func TestWhatIsIssuedIsWhatWasAskedForSigned(t *testing.T) {
	r := rand.New(rand.NewSource(94))
	for i, s := range rightSecrets() {
		p, _ := impl.PubOf(s)
		for _, c := range []impl.Cert{endCert(), caCert(), anyCert(r), anyCert(r), greatCert()} {
			for _, sig := range [][]byte{nil, {1, 2}, make([]byte, impl.MaxSig), make([]byte, impl.MaxSig+1), make([]byte, 3*impl.MaxBytes)} {
				asked := copyCert(c)
				asked.Sig = sig
				want := copyCert(c)
				want.Sig = slowBytes(s, slowCertBody(c))
				then := s
				if s.Scheme == impl.ScTree {
					then.Next++
				}
				got, next, code := impl.IssueCert(asked, s)
				if code != 0 || next != then || !sameCert(got, want) {
					t.Fatal("secret", i, "got", got, next, code, "want", want)
				}
				if !impl.CertOk(got) || !impl.CertSigned(got, p) {
					t.Fatal("secret", i, "not signed", got)
				}
				checkReadBack(t, "issued", got)
			}
		}
	}
}

func TestIssueCertRefuses(t *testing.T) {
	secret := impl.Secret{Scheme: impl.ScTree, X: 7, Height: 2, Next: 1}
	used := []impl.Secret{{Scheme: impl.ScTree, X: 7, Next: 1}, {Scheme: impl.ScTree, X: 7, Height: 2, Next: 4}, {Scheme: impl.ScTree, Height: 5, Next: 32}}
	for _, row := range certCases() {
		tried := row.c
		tried.Sig = nil
		if impl.CertOk(tried) {
			continue
		}
		for _, s := range append(used, secret, impl.Secret{}) {
			if got, next, code := impl.IssueCert(row.c, s); code != impl.CBad || next != (impl.Secret{}) || !noCert(got) {
				t.Fatal(row.why, s, "got", got, next, code)
			}
		}
	}
	for _, s := range wrongSecrets() {
		if got, next, code := impl.IssueCert(endCert(), s); code != impl.TrKey || next != (impl.Secret{}) || !noCert(got) {
			t.Error(s, "got", got, next, code)
		}
	}
	for _, s := range used {
		if got, next, code := impl.IssueCert(caCert(), s); code != impl.TrEmpty || next != (impl.Secret{}) || !noCert(got) {
			t.Error(s, "got", got, next, code)
		}
	}
}

func TestAnAuthorityIssuesUntilItsKeyIsUsedUp(t *testing.T) {
	s := impl.Secret{Scheme: impl.ScTree, X: 3, Height: 2}
	p, _ := impl.PubOf(s)
	for i := range int64(4) {
		c := endCert()
		c.Serial = i + 1
		got, next, code := impl.IssueCert(c, s)
		if code != 0 || next.Next != i+1 || !impl.CertSigned(got, p) {
			t.Fatal(i, got, next, code)
		}
		s = next
	}
	if got, next, code := impl.IssueCert(endCert(), s); code != impl.TrEmpty || next != (impl.Secret{}) || !noCert(got) {
		t.Error(got, next, code)
	}
}

func TestAnOwnerAsksUntilTheKeyIsUsedUp(t *testing.T) {
	s := impl.Secret{Scheme: impl.ScTree, X: 3, Height: 2}
	for i := range int64(4) {
		q, next, code := impl.MakeReq(partsOf("a"), nil, s)
		if code != 0 || next.Next != i+1 || !impl.ReqOk(q) {
			t.Fatal(i, q, next, code)
		}
		s = next
	}
	if q, next, code := impl.MakeReq(partsOf("a"), nil, s); code != impl.TrEmpty || next != (impl.Secret{}) || !noReq(q) {
		t.Error(q, next, code)
	}
}

// otherCerts are right certificates that are unlike c, a right one of an authority, in one field but Sig.
func otherCerts(c impl.Cert) []impl.Cert {
	var out []impl.Cert
	for _, change := range []func(c *impl.Cert){
		func(c *impl.Cert) { c.Serial++ },
		func(c *impl.Cert) { c.Issuer.Parts[0].Value = "THE  Root" },
		func(c *impl.Cert) { c.Issuer.Parts[1].Attr = 9 },
		func(c *impl.Cert) { c.Subject.Parts[0].Value = "An  Authority" },
		func(c *impl.Cert) { c.Subject.Parts = append(c.Subject.Parts, impl.Part{Attr: 1, Value: "x"}) },
		func(c *impl.Cert) { c.From-- },
		func(c *impl.Cert) { c.To-- },
		func(c *impl.Cert) { c.Key.Y++ },
		func(c *impl.Cert) { c.Key.Height-- },
		func(c *impl.Cert) { c.Key = impl.Pub{Scheme: impl.ScGroup, Y: 4} },
		func(c *impl.Cert) { c.Room = -1 },
		func(c *impl.Cert) { c.Uses ^= impl.UsSign },
		func(c *impl.Cert) { c.Names[1].Text = "v@a.b" },
		func(c *impl.Cert) { c.Names[2].Addr = 5 },
		func(c *impl.Cert) { c.Names = c.Names[:3] },
		func(c *impl.Cert) { c.Names[3].Name.Parts[1].Value = "c" },
		func(c *impl.Cert) { c.Permit[2] = addrGen(0, 1) },
		func(c *impl.Cert) { c.Permit = nil },
		func(c *impl.Cert) { c.Deny = append(c.Deny, hostGen("d")) },
		func(c *impl.Cert) { c.Permit, c.Deny = c.Deny, c.Permit },
		func(c *impl.Cert) { c.Policies[0], c.Policies[1] = c.Policies[1], c.Policies[0] },
		func(c *impl.Cert) { c.Maps[0].To = 999 },
		func(c *impl.Cert) { c.Maps[0].From = 3 },
		func(c *impl.Cert) { c.NeedPolicy = 1 },
		func(c *impl.Cert) { c.NoMap = 0 },
		func(c *impl.Cert) { c.NoAny = 0 },
		func(c *impl.Cert) { c.Exts[0].Critical = false },
		func(c *impl.Cert) { c.Exts[1].Id++ },
		func(c *impl.Cert) { c.Exts[1].Value[0] ^= 1 },
		func(c *impl.Cert) { c.Exts[0].Value = []byte{0} },
	} {
		other := copyCert(c)
		change(&other)
		out = append(out, other)
	}
	return out
}

func TestCertSigned(t *testing.T) {
	secrets := []impl.Secret{{Scheme: impl.ScGroup, X: 5}, {Scheme: impl.ScTree, X: 7}, {Scheme: impl.ScTree, X: 7, Height: 3, Next: 6}}
	for i, s := range secrets {
		p, _ := impl.PubOf(s)
		c, _, _ := impl.IssueCert(caCert(), s)
		if !impl.CertSigned(c, p) {
			t.Fatal("not signed", s)
		}
		for k, other := range otherCerts(c) {
			if !impl.CertOk(other) || impl.CertSigned(other, p) {
				t.Error("secret", i, "field", k, "turned: not right, or taken", other)
			}
		}
		for k, other := range secrets {
			q, _ := impl.PubOf(other)
			if got := impl.CertSigned(c, q); got != (k == i) {
				t.Error("secret", i, "with the key of", k, got)
			}
		}
		for _, q := range []impl.Pub{{}, {Scheme: p.Scheme, Y: p.Y ^ 1, Height: p.Height}, {Scheme: p.Scheme, Y: p.Y, Height: p.Height + 1}, {Scheme: 3 - p.Scheme, Y: p.Y}, c.Key} {
			if impl.CertSigned(c, q) {
				t.Error("secret", i, "taken with", q)
			}
		}
		for at := range c.Sig {
			for _, by := range []byte{1, 64, 128} {
				other := copyCert(c)
				other.Sig[at] ^= by
				if impl.CertSigned(other, p) {
					t.Error("secret", i, "taken with the byte", at, "of Sig turned")
				}
			}
			other := copyCert(c)
			other.Sig = other.Sig[:at]
			if impl.CertSigned(other, p) {
				t.Error("secret", i, "taken with a Sig of", at)
			}
		}
		other := copyCert(c)
		other.Sig = append(other.Sig, 0)
		if impl.CertSigned(other, p) || impl.CertSigned(caCert(), p) || impl.CertSigned(impl.Cert{}, p) {
			t.Error("secret", i, "taken with a byte behind Sig, with another Sig, or of nothing")
		}
	}
}

// What is not right is not signed, though somebody signed its bytes.
func TestCertSignedOfWhatIsNotRight(t *testing.T) {
	for _, s := range []impl.Secret{{Scheme: impl.ScGroup, X: 5}, {Scheme: impl.ScTree, X: 7}} {
		p, _ := impl.PubOf(s)
		for _, row := range certCases() {
			c := row.c
			c.Sig, _, _ = impl.SignAny(s, slowCertBody(c))
			want := row.want || strings.HasPrefix(row.why, "a Sig of")
			if got := impl.CertSigned(c, p); got != want {
				t.Error(row.why, got, want)
			}
		}
	}
}

func TestKeyId(t *testing.T) {
	seen := map[uint64]impl.Pub{}
	for _, scheme := range []int64{math.MinInt64, 0, 1, 2, 3, 128, math.MaxInt64} {
		for _, y := range []uint64{0, 1, 4, 1024, 1 << 32, 1 << 63, math.MaxUint64} {
			for _, height := range []int64{-1, 0, 1, 5, 6, 127, 128, math.MaxInt64} {
				p := impl.Pub{Scheme: scheme, Y: y, Height: height}
				want := impl.HashAll([][]byte{[]byte("key"), impl.PutNum(scheme), eight(y), impl.PutNum(height)})
				got := impl.KeyId(p)
				if got != want {
					t.Error(p, got, want)
				}
				if other, ok := seen[got]; ok {
					t.Error("one KeyId of", p, other)
				}
				seen[got] = p
			}
		}
	}
	if impl.KeyId(impl.Pub{Height: -1}) != impl.KeyId(impl.Pub{Height: -2}) {
		t.Error("a number below 0 has no bytes")
	}
}

func TestFingersAreUnlike(t *testing.T) {
	c := caCert()
	seen := map[uint64]int{impl.Finger(c): -1}
	others := append(otherCerts(c), endCert(), greatCert())
	for _, sig := range [][]byte{nil, {1, 2}, {1, 2, 3, 0}, {1, 2, 2}} {
		other := copyCert(c)
		other.Sig = sig
		others = append(others, other)
	}
	for i, other := range others {
		finger := impl.Finger(other)
		if k, ok := seen[finger]; ok || finger == 0 || finger != impl.Hash(slowCert(other)) {
			t.Error(i, "has the Finger", finger, "as", k, ok)
		}
		seen[finger] = i
	}
}

// ownerCase is who may ask, or not.
type ownerCase struct {
	why     string
	subject impl.Name
	names   []impl.GenName
	want    bool
}

func ownerCases() []ownerCase {
	a, none := partsOf("A  a", "b"), impl.Name{}
	longest := partsOf(slices.Repeat([]string{strings.Repeat("x", 60)}, 8)...)
	eightNames := slices.Repeat([]impl.GenName{{Kind: impl.GnName, Name: longest}}, 8)
	return []ownerCase{
		{"a subject", a, nil, true},
		{"a subject and a name", a, []impl.GenName{hostGen("*.a.b")}, true},
		{"a name alone", none, []impl.GenName{mailGen("u@a")}, true},
		{"a subject of empty Parts, and a name", impl.Name{Parts: []impl.Part{}}, []impl.GenName{addrGen(5, 0)}, true},
		{"nobody", none, nil, false},
		{"nobody, with empty lists", impl.Name{Parts: []impl.Part{}}, []impl.GenName{}, false},
		{"MaxNames names", none, copyGens(eightNames), true},
		{"as much as may be", longest, copyGens(eightNames), true},
		{"one name more", a, append(copyGens(eightNames), hostGen("a")), false},
		{"many names", a, slices.Repeat([]impl.GenName{hostGen("a")}, 9000), false},
		{"two names alike", a, []impl.GenName{hostGen("a"), hostGen("a")}, true},
		{"a name that is none", a, []impl.GenName{hostGen("-")}, false},
		{"a name that is none, alone", none, []impl.GenName{{}}, false},
		{"the last name is none", a, []impl.GenName{hostGen("a"), {Kind: impl.GnName}}, false},
		{"the first name is none", a, []impl.GenName{mailGen("a"), hostGen("a")}, false},
		{"a base", a, []impl.GenName{addrGen(1<<31, 1)}, false},
		{"a subject that is none", onePart(0, "a"), nil, false},
		{"a subject that is none, and a name", onePart(1, " "), []impl.GenName{hostGen("a")}, false},
		{"a subject of nine parts", partsOf(slices.Repeat([]string{"a"}, 9)...), []impl.GenName{hostGen("a")}, false},
	}
}

func TestARequestShowsThatWhoAsksHasTheKey(t *testing.T) {
	for _, row := range ownerCases() {
		for _, s := range rightSecrets() {
			q, next, code := impl.MakeReq(row.subject, row.names, s)
			if !row.want {
				if code != impl.CBad || next != (impl.Secret{}) || !noReq(q) {
					t.Fatal(row.why, s, "got", q, next, code)
				}
				continue
			}
			p, _ := impl.PubOf(s)
			want := impl.Req{Subject: row.subject, Names: row.names, Key: p}
			want.Sig = slowBytes(s, slowReqBody(want))
			then := s
			if s.Scheme == impl.ScTree {
				then.Next++
			}
			if code != 0 || next != then || !sameReq(q, want) || !impl.ReqOk(q) {
				t.Fatal(row.why, s, "got", q, next, code, "want", want)
			}
		}
	}
}

func TestMakeReqRefuses(t *testing.T) {
	used := []impl.Secret{{Scheme: impl.ScTree, X: 7, Next: 1}, {Scheme: impl.ScTree, X: 7, Height: 2, Next: 4}, {Scheme: impl.ScTree, Height: 5, Next: 32}}
	for _, row := range ownerCases() {
		for _, s := range append(wrongSecrets(), used...) {
			code := int64(impl.TrKey)
			if slices.Contains(used, s) {
				code = impl.TrEmpty
			}
			if !row.want {
				code = impl.CBad
			}
			if q, next, got := impl.MakeReq(row.subject, row.names, s); got != code || next != (impl.Secret{}) || !noReq(q) {
				t.Fatal(row.why, s, "got", q, next, got, "want", code)
			}
		}
	}
}

// signedReq is a request with a signature by s, whatever is in it.
func signedReq(q impl.Req, s impl.Secret) impl.Req {
	q.Sig, _, _ = impl.SignAny(s, slowReqBody(q))
	return q
}

func TestReqOk(t *testing.T) {
	for _, s := range []impl.Secret{{Scheme: impl.ScGroup, X: 5}, {Scheme: impl.ScTree, X: 7}, {Scheme: impl.ScTree, X: 7, Height: 3, Next: 6}} {
		p, _ := impl.PubOf(s)
		for _, row := range ownerCases() {
			q := signedReq(impl.Req{Subject: row.subject, Names: row.names, Key: p}, s)
			if got := impl.ReqOk(q); got != row.want {
				t.Error(row.why, s, got)
			}
		}
		q, _, _ := impl.MakeReq(partsOf("a", "b"), []impl.GenName{hostGen("a"), nameGen("n"), addrGen(7, 0)}, s)
		for i, change := range []func(q *impl.Req){
			func(q *impl.Req) { q.Subject.Parts[0].Value = "A" },
			func(q *impl.Req) { q.Subject.Parts[1].Attr = 3 },
			func(q *impl.Req) { q.Subject.Parts = q.Subject.Parts[:1] },
			func(q *impl.Req) { q.Subject.Parts = nil },
			func(q *impl.Req) { q.Names[0].Text = "b" },
			func(q *impl.Req) { q.Names[1].Name.Parts[0].Value = "m" },
			func(q *impl.Req) { q.Names[2].Addr = 8 },
			func(q *impl.Req) { q.Names = q.Names[:2] },
			func(q *impl.Req) { q.Names = nil },
			func(q *impl.Req) { q.Names = append(q.Names, hostGen("c")) },
			func(q *impl.Req) { q.Names[0], q.Names[1] = q.Names[1], q.Names[0] },
			func(q *impl.Req) { q.Key = impl.Pub{Scheme: impl.ScGroup, Y: 4} },
			func(q *impl.Req) { q.Key = impl.Pub{Scheme: impl.ScTree, Y: 4} },
			func(q *impl.Req) { q.Key = impl.Pub{} },
			func(q *impl.Req) { q.Key.Y ^= 1 },
			func(q *impl.Req) { q.Key.Height++ },
			func(q *impl.Req) { q.Key.Height-- },
			func(q *impl.Req) { q.Key.Scheme = 3 - q.Key.Scheme },
			func(q *impl.Req) { q.Sig = nil },
			func(q *impl.Req) { q.Sig = append(q.Sig, 0) },
			func(q *impl.Req) { q.Sig = q.Sig[1:] },
			func(q *impl.Req) { q.Sig = q.Sig[:len(q.Sig)-1] },
			func(q *impl.Req) { q.Sig = append(q.Sig, make([]byte, impl.MaxSig-len(q.Sig))...) },
			func(q *impl.Req) { q.Sig = append(q.Sig, make([]byte, impl.MaxSig+1-len(q.Sig))...) },
			func(q *impl.Req) { q.Sig = make([]byte, impl.MaxSig) },
			func(q *impl.Req) { q.Sig = make([]byte, impl.MaxSig+1) },
		} {
			other := copyReq(q)
			change(&other)
			if impl.ReqOk(other) {
				t.Error("change", i, s, "taken:", other)
			}
		}
		for at := range q.Sig {
			other := copyReq(q)
			other.Sig[at] ^= 1
			if impl.ReqOk(other) {
				t.Error("taken with the byte", at, "of Sig turned", s)
			}
		}
		if !impl.ReqOk(q) || impl.ReqOk(impl.Req{}) {
			t.Error("not taken, or nothing taken", s)
		}
	}
}

// Who has another key than the one that is told can't ask; nor can who forges for what is no key.
func TestReqOkOfKeysThatAreNotTheirs(t *testing.T) {
	mine, theirs := impl.Secret{Scheme: impl.ScTree, X: 7, Height: 1}, impl.Secret{Scheme: impl.ScTree, X: 8, Height: 1}
	p, _ := impl.PubOf(theirs)
	if impl.ReqOk(signedReq(impl.Req{Subject: partsOf("a"), Key: p}, mine)) || !impl.ReqOk(signedReq(impl.Req{Subject: partsOf("a"), Key: p}, theirs)) {
		t.Error("signed by another secret: taken; or by the key's own: not")
	}
	for _, y := range noKeys {
		for k := int64(1); k < 20; k++ {
			q := impl.Req{Subject: partsOf("a"), Key: impl.Pub{Scheme: impl.ScGroup, Y: uint64(y)}}
			s := forged(k%3, k, y, slowReqBody(q))
			q.Sig = append(impl.PutNum(s.E), impl.PutNum(s.S)...)
			if impl.ReqOk(q) {
				t.Error("no key, but taken:", y)
			}
		}
	}
	tall := impl.Req{Subject: partsOf("a"), Key: impl.Pub{Scheme: impl.ScTree, Y: slowNode(3, 6, 0), Height: 6}}
	tree := slowSig(impl.TreeKey{Seed: 3, Height: 6, Next: 9}, slowReqBody(tall))
	tall.Sig = append(impl.PutNum(9), digestsAsBytes(append(tree.Ends, tree.Path...)...)...)
	if impl.ReqOk(tall) {
		t.Error("taken with the height 6")
	}
}
