package tests

import (
	"encoding/hex"
	"math/rand"
	"regexp"
	"slices"
	"strconv"
	"strings"
	"testing"

	"loop.example/g00041/impl"
)

func hexOf(digest uint64) string { return hex.EncodeToString(eight(digest)) }

// scriptCert is what a line of a script asks for: an authority's, when host is ca.
func scriptCert(serial int64, by string, name string, key impl.Pub, from int64, life int64, host string) impl.Cert {
	c := impl.Cert{
		Serial: serial, Issuer: partsOf(by), Subject: partsOf(name), From: from, To: from + life, Key: key, Room: -1,
		Policies: []int64{0}, NeedPolicy: -1, NoMap: -1, NoAny: -1,
	}
	if host == "ca" {
		c.IsCA, c.Uses = true, 2+4
	} else {
		c.Uses, c.Names = 8+16, gens(hostGen(host))
	}
	return c
}

// certSaid is what a script says of a certificate that was issued by a secret.
func certSaid(c impl.Cert, s impl.Secret) string {
	c.Sig = slowBytes(s, slowCertBody(c))
	return "cert " + c.Subject.Parts[0].Value + " " + strconv.FormatInt(c.Serial, 10) + " " + hexOf(slowDigest(slowCert(c)))
}

func keySaid(name string, s impl.Secret) string { return "key " + name + " " + hexOf(pubOfSecret(s).Y) }

func groupKey(x uint64) impl.Secret { return impl.Secret{Scheme: impl.ScGroup, X: x} }

func treeKey(seed uint64, height int64) impl.Secret {
	return impl.Secret{Scheme: impl.ScTree, X: seed, Height: height}
}

func spent(s impl.Secret, next int64) impl.Secret {
	s.Next = next
	return s
}

// slowThing is what has a name among anchors and certificates; one with a reason is taken back.
type slowThing struct {
	name   string
	key    string
	anchor bool
	cert   impl.Cert
	goneAt int64
	reason int64
}

// slowWorld is a second reading of scripts: lines are met by patterns, paths are climbed by names, each that is taken
// back has a list of its own, and the log has names.
type slowWorld struct {
	t      *testing.T
	clock  int64
	serial int64
	keys   map[string]impl.Secret
	things []*slowThing
	log    []string
	filter impl.Cascade
}

func (w *slowWorld) thing(name string) *slowThing {
	for _, x := range w.things {
		if x.name == name {
			return x
		}
	}
	return nil
}

func (w *slowWorld) certOf(name string) *slowThing {
	if x := w.thing(name); x != nil && !x.anchor {
		return x
	}
	return nil
}

func (w *slowWorld) count(anchors bool) int {
	count := 0
	for _, x := range w.things {
		if x.anchor == anchors {
			count++
		}
	}
	return count
}

func (w *slowWorld) hasKey(name string) bool {
	_, ok := w.keys[name]
	return ok
}

func wordNumber(word string) int64 {
	n, _ := strconv.ParseInt(word, 10, 64)
	return n
}

func (w *slowWorld) newKey(name string, s impl.Secret) string {
	if w.hasKey(name) {
		return "twice"
	}
	if _, ok := impl.PubOf(s); !ok {
		return "no"
	}
	w.keys[name] = s
	return keySaid(name, s)
}

func (w *slowWorld) root(name string, key string) string {
	switch {
	case !w.hasKey(key):
		return "none"
	case w.thing(name) != nil:
		return "twice"
	case w.count(true) >= 6:
		return "no"
	}
	w.things = append(w.things, &slowThing{name: name, key: key, anchor: true})
	return "root " + name
}

func (w *slowWorld) issue(name string, by string, key string, life int64, host string) string {
	issuer := w.thing(by)
	switch {
	case issuer == nil || !w.hasKey(key):
		return "none"
	case w.thing(name) != nil:
		return "twice"
	case w.count(false) >= 14 || w.clock+life > 253402300799 || isUsedUp(w.keys[issuer.key]):
		return "no"
	}
	c := scriptCert(w.serial, by, name, pubOfSecret(w.keys[key]), w.clock, life, host)
	s := w.keys[issuer.key]
	c.Sig = slowBytes(s, slowCertBody(c))
	said := certSaid(c, s)
	if s.Scheme == impl.ScTree {
		w.keys[issuer.key] = spent(s, s.Next+1)
	}
	w.serial++
	w.things = append(w.things, &slowThing{name: name, key: key, cert: c})
	return said
}

func (w *slowWorld) takeBack(x *slowThing, reason int64) string {
	if reason < 1 || reason > 6 || x.reason != 0 {
		return "no"
	}
	x.reason, x.goneAt = reason, w.clock
	return "gone " + x.name
}

func (w *slowWorld) tick(by int64) string {
	if w.clock+by > 253402300798 {
		return "no"
	}
	w.clock += by
	return "at " + strconv.FormatInt(w.clock, 10)
}

func (w *slowWorld) anchorOf(x *slowThing) impl.Anchor {
	return impl.Anchor{Name: partsOf(x.name), Key: pubOfSecret(w.keys[x.key]), Until: impl.MaxTime}
}

func (w *slowWorld) ask(host string) impl.Ask {
	q := impl.Ask{At: w.clock, Uses: 8, Want: hostGen(host), Policies: []int64{0}}
	for _, x := range w.things {
		if x.reason != 0 {
			q.Lists = append(q.Lists, impl.Crl{
				Issuer: x.cert.Issuer, Number: 1, Base: -1, At: w.clock, Next: w.clock + 1, Scope: 126,
				Entries: []impl.Gone{goneAt(x.cert.Serial, x.goneAt, x.reason)},
			})
		}
	}
	return q
}

// find climbs, as everybody has one issuer alone, and asks Find, too.
func (w *slowWorld) find(x *slowThing, host string) string {
	var path []impl.Cert
	names := x.name
	top := x
	for !top.anchor {
		path = append([]impl.Cert{top.cert}, path...)
		top = w.thing(top.cert.Issuer.Parts[0].Value)
		names = top.name + " " + names
	}
	said := "no"
	if code, _ := slowCheck(path, w.anchorOf(top), w.ask(host)); code == 0 {
		said = "path " + names
	}
	if asked := w.askFind(x, host); asked != said {
		w.t.Error("Find says", asked, "but", said)
	}
	return said
}

func (w *slowWorld) askFind(target *slowThing, host string) string {
	var pool []impl.Cert
	var anchors []impl.Anchor
	at := 0
	for _, x := range w.things {
		if x.anchor {
			anchors = append(anchors, w.anchorOf(x))
			continue
		}
		if x == target {
			at = len(pool)
		}
		pool = append(pool, x.cert)
	}
	list, anchor, code := impl.Find(pool, anchors, int64(at), w.ask(host))
	if code != 0 {
		return "no"
	}
	var path []impl.Cert
	said := "path " + anchors[anchor].Name.Parts[0].Value
	for _, i := range list {
		path = append(path, pool[i])
		said += " " + pool[i].Subject.Parts[0].Value
	}
	if code, _ := impl.Check(path, anchors[anchor], w.ask(host)); code != 0 {
		w.t.Error("Check says", code, "of", said)
	}
	return said
}

func (w *slowWorld) row() []uint64 {
	var out []uint64
	for _, name := range w.log {
		out = append(out, impl.HashAll([][]byte{[]byte("entry"), slowCert(w.thing(name).cert)}))
	}
	return out
}

func (w *slowWorld) logs(x *slowThing) string {
	w.log = append(w.log, x.name)
	return "log " + strconv.Itoa(len(w.log)) + " " + hexOf(slowRoot(w.row()))
}

func (w *slowWorld) prove(x *slowThing) string {
	at := slices.Index(w.log, x.name)
	if at < 0 {
		return "no"
	}
	row := w.row()
	proof := slowInclude(row, at)
	if !slowCheckInclude(slowRoot(row), int64(len(row)), int64(at), row[at], proof) {
		w.t.Error("no proof of", x.name)
	}
	return "proof " + strconv.Itoa(len(proof)) + " ok"
}

func (w *slowWorld) build() string {
	var gone, good []uint64
	for _, x := range w.things {
		finger := slowDigest(slowCert(x.cert))
		switch {
		case x.anchor:
		case x.reason != 0:
			gone = append(gone, finger)
		default:
			good = append(good, finger)
		}
	}
	rows := slowRows(0, gone, good)
	if len(rows) > 30 {
		return "no"
	}
	w.filter = impl.Cascade{Levels: rows}
	size := 1
	for _, row := range rows {
		size += 1 + (len(row.Bits)+7)/8
	}
	return "filter " + strconv.Itoa(size)
}

func (w *slowWorld) isIn(x *slowThing) string {
	if slowInCascade(w.filter, slowDigest(slowCert(x.cert))) {
		return "yes"
	}
	return "no"
}

// withCert does what is done with a certificate that is there.
func (w *slowWorld) withCert(name string, does func(x *slowThing) string) string {
	x := w.certOf(name)
	if x == nil {
		return "none"
	}
	return does(x)
}

var scriptForms = regexp.MustCompile(`\A(?:` + strings.NewReplacer("NAME", `([a-z0-9]{1,8})`, "NUMBER", `([0-9]{1,15})`, "WORD", `([^ ]+)`).Replace(
	`(key) NAME NUMBER|(tree) NAME NUMBER NUMBER|(root) NAME NAME|(cert) NAME NAME NAME NUMBER WORD|(gone) NAME NUMBER|`+
		`(tick) NUMBER|(find) NAME WORD|(log) NAME|(prove) NAME|(filter)|(gone\?) NAME`) + `)\z`)

// metWords are the word of the form that a line has, and what stands behind it; none when it has no form.
func metWords(line string) []string {
	groups := scriptForms.FindStringSubmatch(line)
	if groups == nil {
		return nil
	}
	return slices.DeleteFunc(groups[1:], func(word string) bool { return word == "" })
}

func (w *slowWorld) says(line string) string {
	m := metWords(line)
	if m == nil || m[0] == "cert" && m[5] != "ca" && !impl.HostOk(m[5], true) || m[0] == "find" && !impl.HostOk(m[2], false) {
		return "what"
	}
	switch m[0] {
	case "key":
		return w.newKey(m[1], groupKey(uint64(wordNumber(m[2]))))
	case "tree":
		return w.newKey(m[1], treeKey(uint64(wordNumber(m[2])), wordNumber(m[3])))
	case "root":
		return w.root(m[1], m[2])
	case "cert":
		return w.issue(m[1], m[2], m[3], wordNumber(m[4]), m[5])
	case "tick":
		return w.tick(wordNumber(m[1]))
	case "filter":
		return w.build()
	}
	return w.withCert(m[1], func(x *slowThing) string {
		switch m[0] {
		case "gone":
			return w.takeBack(x, wordNumber(m[2]))
		case "find":
			return w.find(x, m[2])
		case "log":
			return w.logs(x)
		case "prove":
			return w.prove(x)
		}
		return w.isIn(x)
	})
}

var manyBlanks = regexp.MustCompile(" +")

func slowScript(t *testing.T, text string) string {
	rows := strings.Split(text, "\n")
	if len(rows) > 61 || rows[len(rows)-1] != "" {
		return "too long\n"
	}
	w := &slowWorld{t: t, clock: 1000, serial: 1, keys: map[string]impl.Secret{}}
	out := ""
	for _, row := range rows {
		if line := strings.Trim(manyBlanks.ReplaceAllString(row, " "), " "); line != "" {
			out += w.says(line) + "\n"
		}
	}
	return out
}

// wantScript holds a script to what it is to say, line by line; a line that is to say nothing has "" behind it.
func wantScript(t *testing.T, why string, rows ...[2]string) {
	t.Helper()
	text, want := "", ""
	for _, row := range rows {
		text += row[0] + "\n"
		if row[1] != "" {
			want += row[1] + "\n"
		}
	}
	got := impl.RunScript(text)
	if got != want {
		said, meant := strings.Split(got, "\n"), strings.Split(want, "\n")
		for i := range min(len(said), len(meant)) {
			if said[i] != meant[i] {
				t.Errorf("%s: line %d of what is said: got %q want %q", why, i, said[i], meant[i])
			}
		}
		if len(said) != len(meant) {
			t.Errorf("%s: got %q want %q", why, got, want)
		}
	}
	if slow := slowScript(t, text); slow != got {
		t.Errorf("%s: got %q, the second reading says %q", why, got, slow)
	}
}

// scriptMaker makes lines of names that were told already, most of the time.
type scriptMaker struct {
	r     *rand.Rand
	roots []string
	certs []string
	keys  []string
	next  int
}

func (m *scriptMaker) oneOf(list []string) string {
	if m.r.Intn(12) == 0 {
		return oneOf(m.r, "zz", "r", "c1", "k", "t")
	}
	return oneOf(m.r, list...)
}

// fresh is a name that nothing has, most of the time.
func (m *scriptMaker) fresh(mark string, list *[]string) string {
	if m.r.Intn(12) == 0 {
		return oneOf(m.r, *list...)
	}
	m.next++
	*list = append(*list, mark+strconv.Itoa(m.next))
	return mark + strconv.Itoa(m.next)
}

func (m *scriptMaker) number(list ...int) string { return strconv.Itoa(oneOf(m.r, list...)) }

func (m *scriptMaker) host() string {
	return oneOf(m.r, "a.x", "a.x", "a.x", "a.x", "a.x", "a.x", "b.x", "*.b.x", "c.b.x", "-")
}

func (m *scriptMaker) certLine() string {
	kind := "ca"
	if m.r.Intn(3) > 0 {
		kind = m.host()
	}
	by := m.oneOf(m.roots)
	if m.r.Intn(2) == 0 {
		by = m.oneOf(m.certs)
	}
	key := m.oneOf(m.keys)
	return "cert " + m.fresh("c", &m.certs) + " " + by + " " + key + " " + m.number(0, 10, 50, 900, 900, 900, 253402299799, 253402299800) + " " + kind
}

func (m *scriptMaker) line() string {
	switch m.r.Intn(20) {
	case 0:
		return "key " + m.fresh("k", &m.keys) + " " + m.number(0, 5, 6, 7)
	case 1:
		return "tree " + m.fresh("t", &m.keys) + " " + m.number(0, 5, 6) + " " + m.number(0, 1, 2, 6)
	case 2:
		key := m.oneOf(m.keys)
		return "root " + m.fresh("r", &m.roots) + " " + key
	case 3, 4, 5, 6, 7:
		return m.certLine()
	case 8:
		return "gone " + m.oneOf(m.certs) + " " + m.number(0, 1, 2, 3, 4, 5, 6, 7)
	case 9:
		return "tick " + m.number(0, 1, 2, 5, 253402299700, 253402299798, 253402299799)
	case 10, 11, 12, 13:
		return "find " + m.oneOf(m.certs) + " " + m.host()
	case 14:
		return "log " + m.oneOf(m.certs)
	case 15, 16:
		return "prove " + m.oneOf(m.certs)
	case 17:
		return "filter"
	}
	return "gone? " + m.oneOf(m.certs)
}

// bentLine is a line that may be none.
func bentLine(r *rand.Rand, line string) string {
	words := strings.Split(line, " ")
	at := r.Intn(len(words))
	switch r.Intn(6) {
	case 0:
		words = slices.Delete(words, at, at+1)
	case 1:
		words = slices.Insert(words, at, words[at])
	case 2:
		words[at] += oneOf(r, "0", "a", "A", "-", ".", "\t", "\x00", "é", "\xff", "?")
	case 3:
		words[at] = oneOf(r, "", "0", "ca", "key", "abcdefgh", "abcdefghi", "000000000000001", "0000000000000001")
	case 4:
		words = append(words, "")
	default:
		words = append([]string{"", ""}, words...)
	}
	return strings.Join(words, " ")
}

func anyScript(r *rand.Rand) []string {
	lines := []string{"key k 5", "tree t 6 2", "root r k", "root s t", "cert c r k 900 ca"}
	m := &scriptMaker{r: r, roots: []string{"r", "s"}, certs: []string{"c"}, keys: []string{"k", "k", "t"}}
	for range 16 + r.Intn(40) {
		line := m.line()
		if r.Intn(10) == 0 {
			line = bentLine(r, line)
		}
		lines = append(lines, line)
	}
	return lines
}
