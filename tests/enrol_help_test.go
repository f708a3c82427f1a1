package tests

import (
	"math/rand"
	"slices"
	"strings"
	"testing"

	"loop.example/g00041/impl"
)

func orderBy(party int64, host string, how int64) impl.EnOp {
	return impl.EnOp{Kind: impl.EoOrder, Party: party, Host: host, How: how}
}

func placeBy(party int64, host string, how int64, n int64) impl.EnOp {
	return impl.EnOp{Kind: impl.EoPlace, Party: party, Host: host, How: how, N: n}
}

func replyBy(party int64, n int64) impl.EnOp {
	return impl.EnOp{Kind: impl.EoReply, Party: party, N: n}
}

func checkOf(n int64) impl.EnOp { return impl.EnOp{Kind: impl.EoCheck, N: n} }

func giveTo(party int64, host string) impl.EnOp {
	return impl.EnOp{Kind: impl.EoGive, Party: party, Host: host}
}

func powerOf(party int64, host string, how int64) impl.EnOp {
	return impl.EnOp{Kind: impl.EoPower, Party: party, Host: host, How: how}
}

func loseOf(party int64, host string, how int64) impl.EnOp {
	return impl.EnOp{Kind: impl.EoLose, Party: party, Host: host, How: how}
}

func tickBy(n int64) impl.EnOp { return impl.EnOp{Kind: impl.EoTick, N: n} }

// deed is an op with the code that is wanted of it.
type deed struct {
	op   impl.EnOp
	code int64
}

func done(op impl.EnOp) deed { return deed{op, impl.EoOK} }

func notDone(op impl.EnOp) deed { return deed{op, impl.EoNo} }

// enrolPast is what was done up to now, and with which codes. All that is so it works out by looking back.
type enrolPast struct {
	holds []impl.Hold
	ops   []impl.EnOp
	codes []int64
}

// ago looks at the ops that were done, from the last on, until see says that it has seen enough.
func (p enrolPast) ago(see func(op impl.EnOp) bool) {
	for i := len(p.codes) - 1; i >= 0; i-- {
		if p.codes[i] == impl.EoOK && see(p.ops[i]) {
			return
		}
	}
}

func (p enrolPast) until(count int) enrolPast {
	return enrolPast{holds: p.holds, ops: p.ops[:count], codes: p.codes[:count]}
}

func (p enrolPast) clock() int64 {
	sum := int64(0)
	p.ago(func(op impl.EnOp) bool {
		if op.Kind == impl.EoTick {
			sum += op.N
		}
		return false
	})
	return sum
}

func (p enrolPast) isHolder(party int64, host string) bool {
	holder := int64(-1)
	for _, h := range p.holds {
		if h.Host == host {
			holder = h.Party
		}
	}
	p.ago(func(op impl.EnOp) bool {
		given := op.Kind == impl.EoGive && op.Host == host
		if given {
			holder = op.Party
		}
		return given
	})
	return holder == party
}

func (p enrolPast) hasPower(party int64, host string, how int64) bool {
	has := false
	p.ago(func(op impl.EnOp) bool {
		if op.Host != host {
			return false
		}
		ofIt := op.Party == party && op.How == how
		has = op.Kind == impl.EoPower && ofIt
		return has || op.Kind == impl.EoLose && ofIt || op.Kind == impl.EoGive
	})
	return has
}

func (p enrolPast) controls(party int64, host string, how int64) bool {
	return p.isHolder(party, host) || p.hasPower(party, host, how)
}

// pastOrder is an order, and how many ops were ahead of it.
type pastOrder struct {
	impl.EnOp
	ahead int
}

func (p enrolPast) orders() []pastOrder {
	var out []pastOrder
	for i, op := range p.ops[:len(p.codes)] {
		if op.Kind == impl.EoOrder && p.codes[i] == impl.EoOK {
			out = append(out, pastOrder{op, i})
		}
	}
	return out
}

func (p enrolPast) age(o pastOrder) int64 { return p.clock() - p.until(o.ahead).clock() }

func (o pastOrder) base() string { return strings.TrimPrefix(o.Host, "*.") }

func (p enrolPast) orderAt(n int64) (pastOrder, bool) {
	list := p.orders()
	if n < 0 || n >= int64(len(list)) {
		return pastOrder{}, false
	}
	return list[n], true
}

func (p enrolPast) isOpen(n int64) bool {
	_, open := p.orderAt(n)
	for i, op := range p.ops[:len(p.codes)] {
		if op.Kind == impl.EoCheck && op.N == n && (p.codes[i] == impl.EoOK || p.codes[i] == impl.EoRate) {
			open = false
		}
	}
	return open
}

// lies is the op that laid what lies at a host by a way.
func (p enrolPast) lies(host string, how int64) (impl.EnOp, bool) {
	var last impl.EnOp
	found := false
	lost := map[int64]bool{}
	p.ago(func(op impl.EnOp) bool {
		if op.Host != host {
			return false
		}
		switch {
		case op.Kind == impl.EoGive:
			return true
		case op.Kind == impl.EoLose && op.How == how:
			lost[op.Party] = true
		case op.Kind == impl.EoPlace && op.How == how:
			last, found = op, !lost[op.Party]
			return true
		}
		return false
	})
	return last, found
}

func (p enrolPast) answered(n int64) bool {
	o, _ := p.orderAt(n)
	yes := false
	p.ago(func(op impl.EnOp) bool {
		yes = op.Kind == impl.EoReply && op.N == n
		return yes || op.Host == o.base() && (op.Kind == impl.EoGive || op.Kind == impl.EoLose && op.How == impl.WyMail && op.Party == o.Party)
	})
	return yes
}

func (p enrolPast) isShown(n int64) bool {
	o, _ := p.orderAt(n)
	if o.How == impl.WyMail {
		return p.answered(n)
	}
	op, ok := p.lies(o.base(), o.How)
	return ok && op.N == n
}

func (p enrolPast) orderCode(op impl.EnOp) int64 {
	if !impl.HostOk(op.Host, true) || !within(op.How, 1, 3) {
		return impl.EoNo
	}
	if op.Host[0] == '*' && op.How != impl.WyName {
		return impl.EoWild
	}
	young := 0
	for _, o := range p.orders() {
		if o.Party == op.Party && p.age(o) < 100 {
			young++
		}
	}
	if young >= 3 {
		return impl.EoRate
	}
	return impl.EoOK
}

func (p enrolPast) checkCode(n int64) int64 {
	o, _ := p.orderAt(n)
	switch {
	case !p.isOpen(n):
		return impl.EoNo
	case p.age(o) >= 50:
		return impl.EoRate
	case p.isShown(n):
		return impl.EoOK
	}
	return impl.EoOpen
}

func (p enrolPast) canReply(op impl.EnOp) bool {
	o, ok := p.orderAt(op.N)
	return ok && o.Party == op.Party && p.isOpen(op.N) && o.How == impl.WyMail && p.controls(op.Party, o.base(), impl.WyMail)
}

// can tells of the kinds that have no codes of their own whether an op can be.
func (p enrolPast) can(op impl.EnOp) bool {
	host := impl.HostOk(op.Host, false)
	switch op.Kind {
	case impl.EoPlace:
		_, ok := p.orderAt(op.N)
		return ok && host && within(op.How, 1, 2) && p.controls(op.Party, op.Host, op.How)
	case impl.EoReply:
		return p.canReply(op)
	case impl.EoGive:
		return host
	case impl.EoPower, impl.EoLose:
		return host && within(op.How, 1, 3)
	}
	return false
}

func (p enrolPast) code(op impl.EnOp) int64 {
	switch {
	case op.Kind == impl.EoCheck:
		return p.checkCode(op.N)
	case op.Kind == impl.EoTick && within(op.N, 0, 1000):
		return impl.EoOK
	case op.Kind == impl.EoTick || !within(op.Party, 0, 5):
		return impl.EoNo
	case op.Kind == impl.EoOrder:
		return p.orderCode(op)
	case p.can(op):
		return impl.EoOK
	}
	return impl.EoNo
}

func slowEnrol(holds []impl.Hold, ops []impl.EnOp) (impl.EnReport, enrolPast) {
	p := enrolPast{holds: holds, ops: ops}
	var out impl.EnReport
	for _, op := range ops {
		code := p.code(op)
		if op.Kind == impl.EoCheck && code == impl.EoOK {
			o, _ := p.orderAt(op.N)
			out.Issued = append(out.Issued, impl.Issued{Party: o.Party, Host: o.Host, At: p.clock(), Order: op.N})
		}
		p.codes = append(p.codes, code)
	}
	out.Codes, out.Now = slices.Clone(p.codes), p.clock()
	return out, p
}

func sameReport(a impl.EnReport, b impl.EnReport) bool {
	return slices.Equal(a.Codes, b.Codes) && slices.Equal(a.Issued, b.Issued) && a.Now == b.Now
}

func deedOps(deeds []deed) ([]impl.EnOp, []int64) {
	var ops []impl.EnOp
	var codes []int64
	for _, d := range deeds {
		ops, codes = append(ops, d.op), append(codes, d.code)
	}
	return ops, codes
}

// wantDeeds wants the codes of all deeds, and just these orders issued, in this order.
func wantDeeds(t *testing.T, why string, holds []impl.Hold, deeds []deed, issued ...int64) impl.EnReport {
	t.Helper()
	ops, codes := deedOps(deeds)
	got, ok := impl.Enrol(holds, ops)
	if !ok || !slices.Equal(got.Codes, codes) {
		t.Error(why, "got", got.Codes, ok, "want", codes)
	}
	var orders []int64
	for _, x := range got.Issued {
		orders = append(orders, x.Order)
	}
	if !slices.Equal(orders, issued) {
		t.Error(why, "issued", got.Issued, "want", issued)
	}
	if slow, _ := slowEnrol(holds, ops); !sameReport(got, slow) {
		t.Error(why, "got", got, "the second reading has", slow)
	}
	return got
}

func enrolHosts() []string { return []string{"a.x", "b.a.x", "x.y"} }

// anyEnOp is some op, mostly of few parties and hosts, so that much can be; orders is how many there may be by then.
func anyEnOp(r *rand.Rand, orders int64) impl.EnOp {
	party := oneOf(r, 0, 0, 1, 1, 2, r.Int63n(6))
	host, how, n := oneOf(r, enrolHosts()...), 1+r.Int63n(3), r.Int63n(orders+1)
	switch r.Intn(22) {
	case 0, 1:
		return orderBy(party, host, how)
	case 2:
		return orderBy(party, "*."+oneOf(r, "a.x", "x.y", host), oneOf(r, impl.WyName, impl.WyName, how))
	case 3, 4, 5, 6, 7:
		return placeBy(party, host, 1+r.Int63n(2), n)
	case 8, 9:
		return replyBy(party, n)
	case 10, 11, 12, 13, 14:
		return checkOf(n)
	case 15:
		return giveTo(party, host)
	case 16, 17:
		return powerOf(party, host, how)
	case 18:
		return loseOf(party, host, how)
	case 19, 20:
		return tickBy(oneOf(r, 0, 1, 10, 24, 25, 49, 50, 51, 99, 100, r.Int63n(101)))
	}
	return impl.EnOp{
		Kind: oneOf(r, -1, 0, 9, 1+r.Int63n(8)), Party: oneOf[int64](r, -1, 0, 5, 6), Host: oneOf(r, "", "A", "*.x.y", "*.x", "a.x"),
		How: r.Int63n(6) - 1, N: oneOf[int64](r, -1, 0, 1, 1000, 1001),
	}
}

func anyHolds(r *rand.Rand) []impl.Hold {
	var out []impl.Hold
	for _, host := range enrolHosts() {
		if r.Intn(2) == 0 {
			out = append(out, impl.Hold{Host: host, Party: r.Int63n(3)})
		}
	}
	return out
}

// helpful lets some order go on: who can shows it, or the authority looks at it.
func (p enrolPast) helpful(r *rand.Rand) impl.EnOp {
	list := p.orders()
	if len(list) == 0 {
		return orderBy(r.Int63n(3), oneOf(r, enrolHosts()...), 1+r.Int63n(3))
	}
	n := max(0, len(list)-1-r.Intn(3))
	o := list[n]
	if r.Intn(3) == 0 {
		return checkOf(int64(n))
	}
	for party := range int64(6) {
		switch {
		case !p.controls(party, o.base(), o.How):
		case o.How != impl.WyMail:
			return placeBy(party, o.base(), o.How, int64(n))
		case party == o.Party:
			return replyBy(party, int64(n))
		}
	}
	return powerOf(o.Party, o.base(), o.How)
}

// anyDeeds is a run in which what is ordered is often shown.
func anyDeeds(r *rand.Rand, count int) ([]impl.Hold, []impl.EnOp) {
	p := enrolPast{holds: anyHolds(r)}
	for range count {
		op := anyEnOp(r, int64(len(p.orders())))
		if r.Intn(2) == 0 {
			op = p.helpful(r)
		}
		code := p.code(op)
		p.ops, p.codes = append(p.ops, op), append(p.codes, code)
	}
	return p.holds, p.ops
}
