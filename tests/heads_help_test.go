package tests

import (
	"bytes"
	"math/rand"

	"loop.example/g00041/impl"
)

func slowSeen(tag byte, h impl.Head, at int64) []byte {
	return around(64+32+tag, slowNumber(h.Log), slowNumber(h.Size), slowText(string(eight(h.Root))), slowNumber(at))
}

func slowHeadBody(h impl.Head) []byte { return slowSeen(6, h, h.At) }

func slowCosigBody(h impl.Head, at int64) []byte { return slowSeen(7, h, at) }

// signedHead signs what is there, whether it is right or not.
func signedHead(h impl.Head, s impl.Secret) impl.Head {
	h.Sig = slowBytes(s, slowHeadBody(h))
	return h
}

func cosigned(h impl.Head, at int64, s impl.Secret) impl.Cosig {
	p, _ := impl.PubOf(s)
	return impl.Cosig{Key: impl.KeyId(p), At: at, Sig: slowBytes(s, slowCosigBody(h, at))}
}

// headOf is the head of the log 1 that a row has, not signed.
func headOf(row []uint64, at int64) impl.Head {
	return impl.Head{Log: 1, Size: int64(len(row)), Root: slowRoot(row), At: at}
}

func sameHead(a impl.Head, b impl.Head) bool {
	return a.Log == b.Log && a.Size == b.Size && a.Root == b.Root && a.At == b.At && bytes.Equal(a.Sig, b.Sig)
}

func noHead(h impl.Head) bool { return sameHead(h, impl.Head{}) }

func sameCosig(a impl.Cosig, b impl.Cosig) bool {
	return a.Key == b.Key && a.At == b.At && bytes.Equal(a.Sig, b.Sig)
}

func noCosig(c impl.Cosig) bool { return sameCosig(c, impl.Cosig{}) }

func changedHead(h impl.Head, change func(h *impl.Head)) impl.Head {
	h.Sig = bytes.Clone(h.Sig)
	change(&h)
	return h
}

func changedCosig(c impl.Cosig, change func(c *impl.Cosig)) impl.Cosig {
	c.Sig = bytes.Clone(c.Sig)
	change(&c)
	return c
}

// treeNo are secrets whose keys are used up by two signatures.
func treeNo(n int) impl.Secret { return impl.Secret{Scheme: impl.ScTree, X: uint64(n), Height: 1} }

func pubOfSecret(s impl.Secret) impl.Pub {
	p, _ := impl.PubOf(s)
	return p
}

// goesOn is a secret that has signed once more.
func goesOn(s impl.Secret) impl.Secret {
	if s.Scheme == impl.ScTree {
		s.Next++
	}
	return s
}

func isTimeOf(at int64) bool { return within(at, 0, impl.MaxTime) }

func slowHeadSigned(h impl.Head, p impl.Pub) bool {
	if !within(h.Log, 1, 1000) || !within(h.Size, 0, 200) || !isTimeOf(h.At) || h.Size == 0 && h.Root != 0 {
		return false
	}
	return impl.VerifyAny(p, slowHeadBody(h), h.Sig)
}

// checking is all that HeadCheck is asked with.
type checking struct {
	head   impl.Head
	log    impl.Pub
	cosigs []impl.Cosig
	who    []impl.Pub
	least  int64
	now    int64
	age    int64
}

func (c checking) check() int64 {
	return impl.HeadCheck(c.head, c.log, c.cosigs, c.who, c.least, c.now, c.age)
}

// slowCheckOf counts KeyIds for which there is a Pub and a Cosig.
func (c checking) slowCheckOf() int64 {
	if !slowHeadSigned(c.head, c.log) {
		return impl.HcSig
	}
	if !isTimeOf(c.now) || c.head.At > c.now || c.now-c.head.At > c.age {
		return impl.HcAge
	}
	if len(c.cosigs) > 20 || len(c.who) > 20 {
		return impl.HcFew
	}
	counted := map[uint64]int{}
	for _, cosig := range c.cosigs {
		for _, p := range c.who {
			if cosig.Key != impl.KeyId(p) || !isTimeOf(cosig.At) || cosig.At > c.now || c.now-cosig.At > c.age {
				continue
			}
			if impl.VerifyAny(p, slowCosigBody(c.head, cosig.At), cosig.Sig) {
				counted[cosig.Key]++
			}
		}
	}
	if int64(len(counted)) < c.least {
		return impl.HcFew
	}
	return 0
}

const (
	headAt   = 1000
	checkNow = 1050
	checkAge = 100
)

// plainChecking is of a head that three witnesses signed, one of them by a tree.
func plainChecking() checking {
	h := signedHead(headOf(logRow(5), headAt), secretNo(0))
	c := checking{head: h, log: pubNo(0), least: 3, now: checkNow, age: checkAge}
	for _, s := range []impl.Secret{secretNo(1), treeNo(2), secretNo(3)} {
		c.cosigs, c.who = append(c.cosigs, cosigned(h, headAt+5, s)), append(c.who, pubOfSecret(s))
	}
	return c
}

func changedChecking(change func(c *checking)) checking {
	c := plainChecking()
	change(&c)
	return c
}

// anyChecking has a few witnesses and times, so that many of them count.
func anyChecking(r *rand.Rand) checking {
	h := signedHead(headOf(logRow(r.Intn(4)), 1+r.Int63n(4)), secretNo(0))
	c := checking{head: h, log: pubNo(oneOf(r, 0, 0, 0, 0, 0, 0, 0, 1)), least: oneOf(r, 1, 1, 2, r.Int63n(5)), now: 3 + r.Int63n(4), age: r.Int63n(9)}
	for range r.Intn(8) {
		c.who = append(c.who, pubNo(1+r.Intn(4)))
	}
	for range r.Intn(12) {
		signer, of := secretNo(1+r.Intn(4)), h
		if r.Intn(8) == 0 {
			of.Size++
		}
		cosig := cosigned(of, oneOf(r, r.Int63n(7), r.Int63n(7), r.Int63n(7), -1), signer)
		if r.Intn(8) == 0 {
			cosig.Key = impl.KeyId(pubNo(1 + r.Intn(4)))
		}
		if r.Intn(8) == 0 {
			cosig.At++
		}
		c.cosigs = append(c.cosigs, cosig)
	}
	return c
}

// viewParty is what a party knows, by a slow reading of the document.
type viewParty struct {
	size int64
	root uint64
	view int64
	// seen is the whole row that it was shown, which no party knows: a test does.
	seen []uint64
}

type viewRows struct {
	views   [4][]uint64
	parties [4]viewParty
	caught  bool
}

func (w *viewRows) step(op impl.ViewOp) impl.ViewObs {
	if !within(op.A, 0, 3) || !within(op.B, 0, 3) || !within(op.Kind, 1, 4) {
		return impl.ViewObs{Code: impl.VoNo, Caught: w.caught}
	}
	switch op.Kind {
	case impl.VwAdd:
		w.views[op.A] = append(ownRow(w.views[op.A]), op.X)
	case impl.VwCopy:
		w.views[op.B] = ownRow(w.views[op.A])
	case impl.VwShow:
		w.show(op.A, &w.parties[op.B])
	case impl.VwMeet:
		w.meet(w.parties[op.A], w.parties[op.B])
	}
	return impl.ViewObs{Caught: w.caught}
}

func ownRow(row []uint64) []uint64 { return append([]uint64{}, row...) }

func (w *viewRows) show(view int64, p *viewParty) {
	row := ownRow(w.views[view])
	if len(row) == 0 {
		return
	}
	size, root := int64(len(row)), slowRoot(row)
	if p.size > size || p.size > 0 && !slowCheckExtend(p.root, p.size, root, size, slowExtend(row, int(p.size))) {
		w.caught = true
		return
	}
	*p = viewParty{size: size, root: root, view: view, seen: row}
}

func (w *viewRows) meet(a viewParty, b viewParty) {
	if a.size == 0 || b.size == 0 {
		return
	}
	if b.size > a.size {
		a, b = b, a
	}
	row := w.views[a.view]
	if int64(len(row)) < a.size || !slowCheckExtend(b.root, b.size, a.root, a.size, slowExtend(row[:a.size], int(b.size))) {
		w.caught = true
	}
}

func slowViews(ops []impl.ViewOp) ([]impl.ViewObs, bool) {
	if len(ops) > 100 {
		return nil, false
	}
	var w viewRows
	var out []impl.ViewObs
	for _, op := range ops {
		out = append(out, w.step(op))
	}
	return out, true
}

func addTo(view int64, digest uint64) impl.ViewOp {
	return impl.ViewOp{Kind: impl.VwAdd, A: view, X: digest}
}

func copyTo(from int64, to int64) impl.ViewOp { return impl.ViewOp{Kind: impl.VwCopy, A: from, B: to} }

func showTo(view int64, party int64) impl.ViewOp {
	return impl.ViewOp{Kind: impl.VwShow, A: view, B: party}
}

func meetOf(a int64, b int64) impl.ViewOp { return impl.ViewOp{Kind: impl.VwMeet, A: a, B: b} }
