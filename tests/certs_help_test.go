package tests

import (
	"bytes"
	"math/big"
	"math/rand"
	"slices"
	"strings"

	"loop.example/g00041/impl"
)

func sameGen(a impl.GenName, b impl.GenName) bool {
	return a.Kind == b.Kind && a.Text == b.Text && a.Addr == b.Addr && a.Bits == b.Bits && slices.Equal(a.Name.Parts, b.Name.Parts)
}

func sameGens(a []impl.GenName, b []impl.GenName) bool { return slices.EqualFunc(a, b, sameGen) }

func sameExt(a impl.Ext, b impl.Ext) bool {
	return a.Id == b.Id && a.Critical == b.Critical && bytes.Equal(a.Value, b.Value)
}

// sameCert holds every field of two certificates against each other; an empty list and nil are the same.
func sameCert(a impl.Cert, b impl.Cert) bool {
	return a.Serial == b.Serial && slices.Equal(a.Issuer.Parts, b.Issuer.Parts) && slices.Equal(a.Subject.Parts, b.Subject.Parts) &&
		a.From == b.From && a.To == b.To && a.Key == b.Key && a.IsCA == b.IsCA && a.Room == b.Room && a.Uses == b.Uses &&
		sameGens(a.Names, b.Names) && sameGens(a.Permit, b.Permit) && sameGens(a.Deny, b.Deny) &&
		slices.Equal(a.Policies, b.Policies) && slices.Equal(a.Maps, b.Maps) &&
		a.NeedPolicy == b.NeedPolicy && a.NoMap == b.NoMap && a.NoAny == b.NoAny &&
		slices.EqualFunc(a.Exts, b.Exts, sameExt) && bytes.Equal(a.Sig, b.Sig)
}

func noCert(c impl.Cert) bool { return sameCert(c, impl.Cert{}) }

func sameReq(a impl.Req, b impl.Req) bool {
	return slices.Equal(a.Subject.Parts, b.Subject.Parts) && sameGens(a.Names, b.Names) && a.Key == b.Key && bytes.Equal(a.Sig, b.Sig)
}

func noReq(q impl.Req) bool { return sameReq(q, impl.Req{}) }

func copyName(n impl.Name) impl.Name { return impl.Name{Parts: slices.Clone(n.Parts)} }

func copyGens(list []impl.GenName) []impl.GenName {
	var out []impl.GenName
	for _, g := range list {
		g.Name = copyName(g.Name)
		out = append(out, g)
	}
	return out
}

func copyCert(c impl.Cert) impl.Cert {
	c.Issuer, c.Subject = copyName(c.Issuer), copyName(c.Subject)
	c.Names, c.Permit, c.Deny = copyGens(c.Names), copyGens(c.Permit), copyGens(c.Deny)
	c.Policies, c.Maps, c.Sig = slices.Clone(c.Policies), slices.Clone(c.Maps), bytes.Clone(c.Sig)
	exts := c.Exts
	c.Exts = nil
	for _, x := range exts {
		x.Value = bytes.Clone(x.Value)
		c.Exts = append(c.Exts, x)
	}
	return c
}

func copyReq(q impl.Req) impl.Req {
	q.Subject, q.Names, q.Sig = copyName(q.Subject), copyGens(q.Names), bytes.Clone(q.Sig)
	return q
}

// around writes an item by the document's words: its first byte, the length, what is inside.
func around(first byte, inside ...[]byte) []byte {
	all := bytes.Join(inside, nil)
	out := []byte{first}
	if len(all) < 128 {
		out = append(out, byte(len(all)))
	} else {
		length := big.NewInt(int64(len(all))).Bytes()
		out = append(append(out, byte(128+len(length))), length...)
	}
	return append(out, all...)
}

// slowNumber is the item of a number, of as few bytes as its two's complement can have.
func slowNumber(n int64) []byte {
	size := uint(1)
	for n < -1<<(8*size-1) || n > 1<<(8*size-1)-1 {
		size++
	}
	two := big.NewInt(n)
	if n < 0 {
		two.Add(two, new(big.Int).Lsh(big.NewInt(1), 8*size))
	}
	return around(2, two.FillBytes(make([]byte, size)))
}

func slowFlag(yes bool) []byte {
	if yes {
		return []byte{1, 1, 255}
	}
	return []byte{1, 1, 0}
}

func slowText(text string) []byte { return around(4, []byte(text)) }

func slowStruct(fields ...[]byte) []byte { return around(16+32, fields...) }

func slowList[T any](list []T, write func(T) []byte) []byte {
	var rows [][]byte
	for _, x := range list {
		rows = append(rows, write(x))
	}
	return around(17+32, rows...)
}

func slowName(n impl.Name) []byte {
	return slowStruct(slowList(n.Parts, func(p impl.Part) []byte { return slowStruct(slowNumber(p.Attr), slowText(p.Value)) }))
}

func slowGen(g impl.GenName) []byte {
	return slowStruct(slowNumber(g.Kind), slowText(g.Text), slowNumber(g.Addr), slowNumber(g.Bits), slowName(g.Name))
}

func slowPub(p impl.Pub) []byte {
	return slowStruct(slowNumber(p.Scheme), slowText(string(eight(p.Y))), slowNumber(p.Height))
}

func slowMap(m impl.PolMap) []byte { return slowStruct(slowNumber(m.From), slowNumber(m.To)) }

func slowExt(x impl.Ext) []byte {
	return slowStruct(slowNumber(x.Id), slowFlag(x.Critical), slowText(string(x.Value)))
}

// slowCertFields are the items of all fields but Sig, in order, whether the certificate is right or not.
func slowCertFields(c impl.Cert) [][]byte {
	return [][]byte{
		slowNumber(c.Serial), slowName(c.Issuer), slowName(c.Subject), slowNumber(c.From), slowNumber(c.To), slowPub(c.Key),
		slowFlag(c.IsCA), slowNumber(c.Room), slowNumber(c.Uses),
		slowList(c.Names, slowGen), slowList(c.Permit, slowGen), slowList(c.Deny, slowGen),
		slowList(c.Policies, slowNumber), slowList(c.Maps, slowMap),
		slowNumber(c.NeedPolicy), slowNumber(c.NoMap), slowNumber(c.NoAny), slowList(c.Exts, slowExt),
	}
}

func slowCertBody(c impl.Cert) []byte { return around(64+32+1, slowCertFields(c)...) }

func slowCert(c impl.Cert) []byte {
	return around(64+32+2, slowCertBody(c), slowText(string(c.Sig)))
}

func slowReqBody(q impl.Req) []byte {
	return around(64+32+3, slowName(q.Subject), slowList(q.Names, slowGen), slowPub(q.Key))
}

// endCert is of no authority, with as little in it as may be.
func endCert() impl.Cert {
	return impl.Cert{
		Serial: 7, Issuer: partsOf("An Authority"), Subject: partsOf("somebody"), From: 100, To: 200,
		Key: impl.Pub{Scheme: impl.ScGroup, Y: 1024}, Room: -1, Uses: impl.UsServer, NeedPolicy: -1, NoMap: -1, NoAny: -1,
	}
}

// caCert is of an authority, with something in every field.
func caCert() impl.Cert {
	return impl.Cert{
		Serial: 1 << 40, Issuer: partsOf("The  Root", "x"), Subject: partsOf("An Authority"), From: 5, To: impl.MaxTime,
		Key: impl.Pub{Scheme: impl.ScTree, Y: 1 << 63, Height: 5}, IsCA: true, Room: 3, Uses: impl.UsCert | impl.UsCrl,
		Names:    []impl.GenName{hostGen("*.a.b"), mailGen("u@a.b"), addrGen(1<<31, 0), nameGen("a", "b")},
		Permit:   []impl.GenName{hostGen("a.b"), mailGen(".a.b"), addrGen(1<<31, 1), {Kind: impl.GnName}},
		Deny:     []impl.GenName{hostGen("c"), nameGen("c")},
		Policies: []int64{5, 0, 1000}, Maps: []impl.PolMap{{From: 1, To: 1000}, {From: 1, To: 2}},
		NeedPolicy: 0, NoMap: 10, NoAny: -1,
		Exts: []impl.Ext{{Id: 1, Critical: true}, {Id: 300, Value: []byte{0, 255, 7}}},
		Sig:  []byte{1, 2, 3},
	}
}

// greatCert has as much in it as may be.
func greatCert() impl.Cert {
	c := caCert()
	c.Serial = 1 << 62
	long := partsOf(slices.Repeat([]string{strings.Repeat("x", impl.MaxValue)}, impl.MaxParts)...)
	c.Issuer, c.Subject = long, copyName(long)
	c.Names = copyGens(slices.Repeat([]impl.GenName{{Kind: impl.GnName, Name: long}}, impl.MaxNames))
	c.Permit, c.Deny = copyGens(c.Names), copyGens(c.Names)
	c.Policies = []int64{1000, 999, 998, 997, 996, 995}
	c.Maps = slices.Repeat([]impl.PolMap{{From: 1000, To: 1000}}, impl.MaxPols)
	c.Exts = nil
	for id := range int64(impl.MaxExts) {
		c.Exts = append(c.Exts, impl.Ext{Id: 997 + id, Critical: true, Value: bytes.Repeat([]byte{9}, 30)})
	}
	c.Sig = bytes.Repeat([]byte{8}, impl.MaxSig)
	return c
}

func oneOf[T any](r *rand.Rand, list ...T) T { return list[r.Intn(len(list))] }

func someNames(r *rand.Rand, most int, list ...impl.GenName) []impl.GenName {
	var out []impl.GenName
	for range r.Intn(most + 1) {
		out = append(out, oneOf(r, list...))
	}
	return copyGens(out)
}

func anyGens(r *rand.Rand) []impl.GenName {
	return someNames(r, impl.MaxNames, hostGen("a"), hostGen("*.x.y"), mailGen("u1@x"), addrGen(0, 0), addrGen(1<<32-1, 0), addrGen(r.Int63n(1<<32), 0), nameGen("N  n", " m "))
}

func anyBases(r *rand.Rand) []impl.GenName {
	return someNames(r, impl.MaxNames, hostGen("a"), mailGen("u1@x"), mailGen("x.y"), mailGen(".x"), addrGen(0, 0), addrGen(1<<32-1, 32), addrGen(3<<30, 2), nameGen("N  n", " m "), impl.GenName{Kind: impl.GnName})
}

func someBytes(r *rand.Rand, most int) []byte {
	b := make([]byte, oneOf(r, 0, 1, most, r.Intn(most+1)))
	r.Read(b)
	return b
}

func anyPub(r *rand.Rand) impl.Pub {
	if r.Intn(2) == 0 {
		return impl.Pub{Scheme: impl.ScGroup, Y: uint64(impl.KeyOf(anySecret(r)))}
	}
	return impl.Pub{Scheme: impl.ScTree, Y: oneOf(r, 0, 1, 1<<63, 1<<64-1, r.Uint64()), Height: r.Int63n(6)}
}

func anyExts(r *rand.Rand) []impl.Ext {
	var out []impl.Ext
	id := int64(0)
	for range r.Intn(impl.MaxExts + 1) {
		id += 1 + oneOf(r, 0, 1, r.Int63n(240))
		out = append(out, impl.Ext{Id: id, Critical: r.Intn(2) == 0, Value: someBytes(r, 30)})
	}
	return out
}

// anyCert is some certificate that is right.
func anyCert(r *rand.Rand) impl.Cert {
	c := impl.Cert{
		Serial: oneOf(r, 1, 127, 128, 255, 256, 1<<31, 1<<62, 1+r.Int63n(1<<62)), Issuer: partsOf("I", " i "),
		Subject: oneOf(r, impl.Name{}, partsOf("s"), partsOf("S", "t", "~ ~")), Key: anyPub(r), Uses: r.Int63n(256),
		Names: anyGens(r), Exts: anyExts(r), Sig: someBytes(r, impl.MaxSig), Room: -1, NeedPolicy: -1, NoMap: -1, NoAny: -1,
	}
	c.From = oneOf(r, 0, 1, 128, impl.MaxTime, r.Int63n(impl.MaxTime))
	c.To = c.From + oneOf(r, 0, impl.MaxTime-c.From, r.Int63n(impl.MaxTime-c.From+1))
	for _, p := range r.Perm(1001)[:r.Intn(impl.MaxPols+1)] {
		c.Policies = append(c.Policies, int64(p))
	}
	if len(c.Names) == 0 && len(c.Subject.Parts) == 0 {
		c.Subject = partsOf("one")
	}
	if r.Intn(2) == 0 {
		return c
	}
	c.IsCA, c.Room, c.NeedPolicy, c.NoMap, c.NoAny = true, r.Int63n(12)-1, r.Int63n(12)-1, r.Int63n(12)-1, r.Int63n(12)-1
	c.Permit, c.Deny = anyBases(r), anyBases(r)
	for range r.Intn(impl.MaxPols + 1) {
		c.Maps = append(c.Maps, impl.PolMap{From: 1 + r.Int63n(1000), To: 1 + r.Int63n(1000)})
	}
	return c
}
