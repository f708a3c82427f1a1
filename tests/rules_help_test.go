package tests

import (
	"math/rand"
	"regexp"
	"slices"
	"strconv"
	"strings"

	"loop.example/g00041/impl"
)

// ruleTree is a rule as a tree: a mark (or, and, not) with what belongs to it; or a name, with a sign and a word
// behind it where these belong to it.
type ruleTree struct {
	mark string
	kids []ruleTree
	name string
	sign string
	word string
}

func orTree(a ruleTree, b ruleTree) ruleTree  { return ruleTree{mark: "or", kids: []ruleTree{a, b}} }
func andTree(a ruleTree, b ruleTree) ruleTree { return ruleTree{mark: "and", kids: []ruleTree{a, b}} }
func notTree(a ruleTree) ruleTree             { return ruleTree{mark: "not", kids: []ruleTree{a}} }

// told is the tree as RuleShow is to tell it.
func (x ruleTree) told() string {
	switch x.mark {
	case "not":
		return "(not " + x.kids[0].told() + ")"
	case "or", "and":
		return "(" + x.kids[0].told() + " " + x.mark + " " + x.kids[1].told() + ")"
	}
	words := []string{x.name, x.sign, x.word}
	if !slices.Contains([]string{"use", "host", "hosts", "ca"}, x.name) {
		words[2] = strconv.FormatInt(x.number(), 10)
	}
	return strings.Join(slices.DeleteFunc(words, func(w string) bool { return w == "" }), " ")
}

func (x ruleTree) number() int64 {
	n, err := strconv.ParseInt(x.word, 10, 64)
	if err != nil {
		panic(x.word)
	}
	return n
}

func useWords() []string {
	return []string{"sign", "cert", "crl", "server", "client", "stamp", "reply", "log"}
}

func fieldWords() []string {
	return []string{"serial", "life", "room", "names", "policies", "exts", "need", "nomap", "noany", "scheme"}
}

func slowField(c impl.Cert, name string) int64 {
	list := []int64{
		c.Serial, c.To - c.From, c.Room, int64(len(c.Names)), int64(len(c.Policies)), int64(len(c.Exts)),
		c.NeedPolicy, c.NoMap, c.NoAny, c.Key.Scheme,
	}
	return list[slices.Index(fieldWords(), name)]
}

// slowHosts counts the hosts of a certificate that are within a base, and those that are not.
func slowHosts(c impl.Cert, base string) (int, int) {
	in, out := 0, 0
	for _, g := range c.Names {
		host := strings.TrimPrefix(g.Text, "*.")
		switch {
		case g.Kind != impl.GnHost:
		case host == base || strings.HasSuffix(host, "."+base):
			in++
		default:
			out++
		}
	}
	return in, out
}

// holds is asked of certificates that are right.
func (x ruleTree) holds(c impl.Cert) bool {
	switch x.mark {
	case "not":
		return !x.kids[0].holds(c)
	case "or":
		return x.kids[0].holds(c) || x.kids[1].holds(c)
	case "and":
		return x.kids[0].holds(c) && x.kids[1].holds(c)
	}
	switch x.name {
	case "ca":
		return c.IsCA
	case "use":
		return c.Uses>>slices.Index(useWords(), x.word)&1 == 1
	case "policy":
		return slices.Contains(c.Policies, x.number())
	case "ext", "critical":
		i := slices.IndexFunc(c.Exts, func(e impl.Ext) bool { return e.Id == x.number() })
		return i >= 0 && (x.name == "ext" || c.Exts[i].Critical)
	case "host":
		in, _ := slowHosts(c, x.word)
		return in > 0
	case "hosts":
		_, out := slowHosts(c, x.word)
		return out == 0
	}
	has, asked := slowField(c, x.name), x.number()
	return map[string]bool{"=": has == asked, "<": has < asked, ">": has > asked}[x.sign]
}

var (
	ruleWordForm = regexp.MustCompile(`[()=<>]|[!-'*-;?-~]+|[^ ]`)
	numberForm   = regexp.MustCompile(`^-?[0-9]{1,15}$`)
)

// rulePile reads a rule word by word, without going into itself: marks that wait for what belongs to them lie on a
// pile, what was read on another.
type rulePile struct {
	marks []string
	done  []ruleTree
	open  ruleTree
	want  string
}

func (p *rulePile) nests() int {
	count := 0
	for _, mark := range p.marks {
		if mark == "(" || mark == "not" {
			count++
		}
	}
	return count
}

func (p *rulePile) top() string {
	if len(p.marks) == 0 {
		return ""
	}
	return p.marks[len(p.marks)-1]
}

// join takes the last mark off its pile, with what belongs to it.
func (p *rulePile) join() {
	mark, n := p.top(), 2
	if mark == "not" {
		n = 1
	}
	p.marks = p.marks[:len(p.marks)-1]
	from := len(p.done) - n
	p.done = append(p.done[:from:from], ruleTree{mark: mark, kids: slices.Clone(p.done[from:])})
}

func (p *rulePile) joinWhile(marks ...string) {
	for slices.Contains(marks, p.top()) {
		p.join()
	}
}

// whole is called when something that needs no more is read.
func (p *rulePile) whole() {
	p.joinWhile("not")
	p.want = "mark"
}

func (p *rulePile) finish(word string) {
	p.open.word = word
	p.done = append(p.done, p.open)
	p.whole()
}

// takes goes on behind a word; false when no rule begins so.
func (p *rulePile) takes(word string) bool {
	switch p.want {
	case "one":
		return p.takesOne(word)
	case "use":
		return slices.Contains(useWords(), word) && p.ends(word)
	case "number":
		return numberForm.MatchString(word) && p.ends(word)
	case "host":
		return impl.HostOk(word, false) && p.ends(word)
	case "sign":
		p.open.sign, p.want = word, "number"
		return strings.Contains("=<>", word)
	}
	return p.takesMark(word)
}

func (p *rulePile) ends(word string) bool {
	p.finish(word)
	return true
}

func (p *rulePile) takesOne(word string) bool {
	p.open = ruleTree{name: word}
	switch word {
	case "not", "(":
		p.marks = append(p.marks, word)
		return p.nests() <= 20
	case "ca":
		return p.ends("")
	case "use":
		p.want = "use"
	case "policy", "ext", "critical":
		p.want = "number"
	case "host", "hosts":
		p.want = "host"
	default:
		p.want = "sign"
		return slices.Contains(fieldWords(), word)
	}
	return true
}

func (p *rulePile) takesMark(word string) bool {
	switch word {
	case "and":
		p.joinWhile("and")
	case "or":
		p.joinWhile("and", "or")
	case ")":
		p.joinWhile("and", "or")
		if p.top() != "(" {
			return false
		}
		p.marks = p.marks[:len(p.marks)-1]
		p.whole()
		return true
	default:
		return false
	}
	p.marks, p.want = append(p.marks, word), "one"
	return true
}

// slowRule is the tree of a rule, and -1; otherwise the place that is told.
func slowRule(text string) (ruleTree, int) {
	if len(text) > 400 {
		return ruleTree{}, len(text)
	}
	p := rulePile{want: "one"}
	for _, at := range ruleWordForm.FindAllStringIndex(text, -1) {
		if !p.takes(text[at[0]:at[1]]) {
			return ruleTree{}, at[0]
		}
	}
	if p.want == "mark" {
		p.joinWhile("and", "or")
	}
	if p.want != "mark" || len(p.marks) > 0 {
		return ruleTree{}, len(text)
	}
	return p.done[0], -1
}

// plainTree is some rule that has no other in it, about what certificates of anyCert have.
func plainTree(r *rand.Rand) ruleTree {
	number := oneOf(r, "0", "1", "2", "3", "-1", "-0", "007", "-00", "000000000000000", "999999999999999", "-999999999999999", strconv.Itoa(r.Intn(1001)))
	switch r.Intn(8) {
	case 0:
		return ruleTree{name: "ca"}
	case 1, 2:
		return ruleTree{name: "use", word: oneOf(r, useWords()...)}
	case 3:
		return ruleTree{name: oneOf(r, "policy", "ext", "critical"), word: number}
	case 4:
		return ruleTree{name: oneOf(r, "host", "hosts"), word: oneOf(r, "a", "x", "y", "x.y", "b.x.y", "or", "ca", "0")}
	}
	return ruleTree{name: oneOf(r, fieldWords()...), sign: oneOf(r, "=", "<", ">"), word: number}
}

func anyTree(r *rand.Rand, deep int) ruleTree {
	if deep == 0 {
		return plainTree(r)
	}
	switch r.Intn(4) {
	case 0:
		return plainTree(r)
	case 1:
		return notTree(anyTree(r, deep-1))
	case 2:
		return andTree(anyTree(r, deep-1), anyTree(r, deep-1))
	}
	return orTree(anyTree(r, deep-1), anyTree(r, deep-1))
}

// ruleRanks tell which mark may stand in which without ( ).
var ruleRanks = map[string]int{"or": 0, "and": 1, "not": 2, "": 2}

// words are those of the tree, of at least a rank, with ( ) where they are needed, and some where they aren't.
func (x ruleTree) words(r *rand.Rand, rank int) []string {
	var out []string
	switch x.mark {
	case "not":
		out = append([]string{"not"}, x.kids[0].words(r, 2)...)
	case "or", "and":
		here := ruleRanks[x.mark]
		out = slices.Concat(x.kids[0].words(r, here), []string{x.mark}, x.kids[1].words(r, here+1))
	default:
		out = slices.DeleteFunc([]string{x.name, x.sign, x.word}, func(w string) bool { return w == "" })
	}
	if ruleRanks[x.mark] < rank {
		out = slices.Concat([]string{"("}, out, []string{")"})
	}
	if r.Intn(6) == 0 {
		out = slices.Concat([]string{"("}, out, []string{")"})
	}
	return out
}

// spread writes words with blanks, which may lack where one of the two is a sign or a ( ).
func spread(r *rand.Rand, words []string) string {
	alone := func(word string) bool { return strings.Contains("()=<>", word) }
	text := strings.Repeat(" ", r.Intn(2))
	for i, word := range words {
		if i > 0 && !alone(word) && !alone(words[i-1]) {
			text += " "
		}
		text += word + strings.Repeat(" ", max(0, r.Intn(4)-2))
	}
	return text
}

// nestsOf counts how many of "not" and ( stand within one another in a text of a whole rule.
func nestsOf(text string) int {
	p, most := rulePile{want: "one"}, 0
	for _, word := range ruleWordForm.FindAllString(text, -1) {
		p.takes(word)
		most = max(most, p.nests())
	}
	return most
}
