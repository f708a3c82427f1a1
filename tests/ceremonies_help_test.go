package tests

import (
	"math/rand"
	"reflect"
	"slices"
	"testing"

	"loop.example/g00041/impl"
)

// toldOf is all that is in x; an empty list and nil are the same.
func toldOf(x any) string { return shown(reflect.ValueOf(x), false) }

func proposal(who int64, what string) impl.CeOp {
	return impl.CeOp{Kind: impl.CePropose, Who: who, What: []byte(what)}
}

func consent(who int64, n int64) impl.CeOp {
	return impl.CeOp{Kind: impl.CeAgree, Who: who, N: n}
}

func regret(who int64, n int64) impl.CeOp {
	return impl.CeOp{Kind: impl.CeTakeBack, Who: who, N: n}
}

func outGoes(who int64) impl.CeOp { return impl.CeOp{Kind: impl.CeOut, Who: who} }

func backComes(who int64) impl.CeOp { return impl.CeOp{Kind: impl.CeBack, Who: who} }

func waiting(n int64) impl.CeOp { return impl.CeOp{Kind: impl.CeTick, N: n} }

// dealing is what a ceremony begins with.
type dealing struct {
	secret int64
	more   []int64
	n      int64
}

// dealt has n custodians, of whom so many are enough.
func dealt(enough int, n int64) dealing {
	return dealing{secret: 5, more: []int64{2, 0, 7, 1, 9, 3, impl.Q - 1, 8, 8, 1, 2, 3, 4, 5, 6, 7, 8, 9, 10}[:enough-1], n: n}
}

func (d dealing) run(ops []impl.CeOp) (impl.CeReport, bool) {
	return impl.Ceremony(d.secret, d.more, d.n, ops)
}

// ceremonyPast is what was done up to now, and with which codes. All that is so it works out by looking back.
type ceremonyPast struct {
	dealing
	ops   []impl.CeOp
	codes []int64
}

func (p ceremonyPast) until(count int) ceremonyPast {
	return ceremonyPast{dealing: p.dealing, ops: p.ops[:count], codes: p.codes[:count]}
}

func (p ceremonyPast) isDone(i int) bool { return p.codes[i] == impl.CeOK }

func (p ceremonyPast) clock() int64 {
	sum := int64(0)
	for i, op := range p.ops {
		if p.isDone(i) && op.Kind == impl.CeTick {
			sum += op.N
		}
	}
	return sum
}

// proposedAt is the position of the op that proposed n, or -1.
func (p ceremonyPast) proposedAt(n int64) int {
	for i, op := range p.ops {
		if p.isDone(i) && op.Kind == impl.CePropose {
			if n == 0 {
				return i
			}
			n--
		}
	}
	return -1
}

func (p ceremonyPast) isCustodian(who int64) bool { return within(who, 1, p.n) }

// isOut looks for the last op that let who go or come.
func (p ceremonyPast) isOut(who int64) bool {
	for i := len(p.ops) - 1; i >= 0; i-- {
		if op := p.ops[i]; p.isDone(i) && op.Who == who && (op.Kind == impl.CeOut || op.Kind == impl.CeBack) {
			return op.Kind == impl.CeOut
		}
	}
	return false
}

// agrees looks for the last op by which who has agreed to n, or no longer does.
func (p ceremonyPast) agrees(who int64, n int64) bool {
	for i := len(p.ops) - 1; i >= 0; i-- {
		op := p.ops[i]
		if !p.isDone(i) || op.Who != who {
			continue
		}
		if op.Kind == impl.CeOut || op.Kind == impl.CeTakeBack && op.N == n {
			return false
		}
		if op.Kind == impl.CeAgree && op.N == n {
			return true
		}
	}
	return false
}

func (p ceremonyPast) agreed(n int64) []int64 {
	var out []int64
	for who := int64(1); who <= p.n; who++ {
		if p.agrees(who, n) {
			out = append(out, who)
		}
	}
	return out
}

func (p ceremonyPast) isOld(n int64) bool { return p.clock()-p.until(p.proposedAt(n)).clock() > 39 }

// mayAgree does not ask whether n is open, or too old.
func (p ceremonyPast) mayAgree(op impl.CeOp) bool {
	return p.isCustodian(op.Who) && !p.isOut(op.Who) && !p.agrees(op.Who, op.N)
}

// isOpen looks, from the proposal on, for an op that closed it.
func (p ceremonyPast) isOpen(n int64) bool {
	from := p.proposedAt(n)
	if n < 0 || from < 0 {
		return false
	}
	for i := from + 1; i < len(p.ops); i++ {
		was, op := p.until(i), p.ops[i]
		if op.Kind != impl.CeAgree || op.N != n || !was.mayAgree(op) {
			continue
		}
		if was.isOld(n) || len(was.agreed(n)) == len(p.more) {
			return false
		}
	}
	return true
}

func (p ceremonyPast) can(op impl.CeOp) bool {
	switch op.Kind {
	case impl.CePropose:
		return p.isCustodian(op.Who) && len(op.What) < 101
	case impl.CeAgree:
		return p.isOpen(op.N) && p.mayAgree(op) && !p.isOld(op.N)
	case impl.CeTakeBack:
		return p.isOpen(op.N) && p.agrees(op.Who, op.N)
	case impl.CeOut:
		return p.isCustodian(op.Who) && !p.isOut(op.Who)
	case impl.CeBack:
		return p.isOut(op.Who)
	case impl.CeTick:
		return within(op.N, 0, 1000) && op.Who == 0
	}
	return false
}

// slowSignature is by who knows the secret itself: the weighed shares have it as their sum.
func (p ceremonyPast) slowSignature(n int64) impl.CeSig {
	what, who := p.ops[p.proposedAt(n)].What, p.agreed(n)
	sum := int64(0)
	for _, by := range who {
		parts := [][]byte{[]byte("turn"), impl.PutNum(valueOf(p.secret, p.more, by)), impl.PutNum(n), what}
		sum += 1 + int64(impl.HashAll(parts)%500000002)
	}
	e := impl.Challenge(bigPow(impl.G, sum, impl.P), bigPow(impl.G, p.secret, impl.P), what)
	return impl.CeSig{N: n, Who: who, Sig: impl.Sig{E: e, S: modQ([]int64{sum}, []int64{e, p.secret})}}
}

func (p ceremonyPast) slowMinutes() uint64 {
	minutes := uint64(0)
	for i, op := range p.ops {
		if p.isDone(i) {
			minutes = impl.HashAll([][]byte{eight(minutes), impl.PutNum(op.Kind), impl.PutNum(op.Who), impl.PutNum(int64(i)), op.What})
		}
	}
	return minutes
}

// slowCeremony is of a dealing and ops that may be.
func slowCeremony(d dealing, ops []impl.CeOp) (impl.CeReport, ceremonyPast) {
	p, out := ceremonyPast{dealing: d}, impl.CeReport{Key: bigPow(impl.G, d.secret, impl.P)}
	for _, op := range ops {
		code := int64(impl.CeNo)
		if p.can(op) {
			code = impl.CeOK
		}
		p.ops, p.codes = append(p.ops, op), append(p.codes, code)
		if op.Kind == impl.CeAgree && code == impl.CeOK && len(p.agreed(op.N)) == len(d.more)+1 {
			out.Sigs = append(out.Sigs, p.slowSignature(op.N))
		}
	}
	out.Codes, out.Minutes = slices.Clone(p.codes), p.slowMinutes()
	return out, p
}

// ceDeed is an op with the code that is wanted of it.
type ceDeed struct {
	op   impl.CeOp
	code int64
}

func yes(ops ...impl.CeOp) []ceDeed {
	var out []ceDeed
	for _, op := range ops {
		out = append(out, ceDeed{op, impl.CeOK})
	}
	return out
}

func no(ops ...impl.CeOp) []ceDeed {
	var out []ceDeed
	for _, op := range ops {
		out = append(out, ceDeed{op, impl.CeNo})
	}
	return out
}

// wantCeremony wants the codes of all deeds, and just these signatures: of each the proposal and who signs.
func wantCeremony(t *testing.T, why string, d dealing, deeds []ceDeed, sigs ...[]int64) impl.CeReport {
	t.Helper()
	var ops []impl.CeOp
	var codes []int64
	for _, x := range deeds {
		ops, codes = append(ops, x.op), append(codes, x.code)
	}
	got, ok := d.run(ops)
	if !ok || !slices.Equal(got.Codes, codes) {
		t.Error(why, "got", got.Codes, ok, "want", codes)
		return got
	}
	var told [][]int64
	for _, s := range got.Sigs {
		told = append(told, append([]int64{s.N}, s.Who...))
	}
	if !slices.EqualFunc(told, sigs, slices.Equal) {
		t.Error(why, "signed", told, "want", sigs)
	}
	if want, _ := slowCeremony(d, ops); toldOf(got) != toldOf(want) {
		t.Error(why, "got", got, "want", want)
	}
	return got
}

func wantNoCeremony(t *testing.T, why string, d dealing, ops []impl.CeOp) {
	t.Helper()
	if got, ok := d.run(ops); ok || toldOf(got) != toldOf(impl.CeReport{}) {
		t.Error(why, "got", got, ok)
	}
}

func anyDealing(r *rand.Rand) dealing {
	n := 1 + r.Int63n(5)
	more := anyPoly(r, r.Intn(int(n)))
	for i := range more {
		more[i] = oneOf(r, more[i], more[i], 0, impl.Q-1)
	}
	return dealing{secret: oneOf(r, anySecret(r), 1, impl.Q-1), more: more, n: n}
}

func anyCeOp(r *rand.Rand, d dealing) impl.CeOp {
	kind := oneOf[int64](r, 1, 1, 2, 2, 2, 2, 2, 2, 2, 2, 2, 2, 3, 3, 4, 5, 6, 6, r.Int63n(9)-1)
	op := impl.CeOp{Kind: kind, Who: oneOf(r, 1+r.Int63n(d.n), 1+r.Int63n(d.n), 1+r.Int63n(d.n), 1+r.Int63n(d.n), r.Int63n(d.n+3)-1), N: r.Int63n(4)}
	if r.Intn(40) == 0 {
		op.N = oneOf(r, farNumbers()...)
	}
	if r.Intn(40) == 0 {
		op.Who = oneOf(r, farNumbers()...)
	}
	if kind == impl.CeTick {
		op.Who, op.N = oneOf[int64](r, 0, 0, 0, 0, 1), oneOf[int64](r, 0, 1, 5, 9, 15, 39, 40, 41, -1, 1000, 1001)
	}
	if kind == impl.CePropose || r.Intn(5) == 0 {
		op.What = someText(oneOf(r, 0, 1, 4, 4, 4, 99, 100, 101))
	}
	return op
}

func anyCeOps(r *rand.Rand, d dealing, count int) []impl.CeOp {
	var out []impl.CeOp
	for range count {
		out = append(out, anyCeOp(r, d))
	}
	return out
}
