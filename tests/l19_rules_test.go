package tests

import (
	"math/rand"
	"slices"
	"strconv"
	"strings"
	"testing"

	"loop.example/g00041/impl"
)

func TestRuleConstants(t *testing.T) {
	if impl.MaxRule != 400 || impl.MaxNest != 20 || impl.MaxLint != 20 || impl.RlText != 1 || impl.RlCert != 2 {
		t.Error("limits and codes of rules")
	}
}

// wantTold wants a text told so; the second reading is held to it, too.
func wantTold(t *testing.T, text string, want string) {
	t.Helper()
	if got, at := impl.RuleShow(text); got != want || at != -1 {
		t.Errorf("%q: got %q %d, want %q", text, got, at, want)
	}
	if x, at := slowRule(text); at != -1 || x.told() != want {
		t.Errorf("%q: the second reading has the place %d", text, at)
	}
}

func wantPlace(t *testing.T, text string, want int) {
	t.Helper()
	if got, at := impl.RuleShow(text); got != "" || at != int64(want) {
		t.Errorf("%q: got %q %d, want %d", text, got, at, want)
	}
	if _, at := slowRule(text); at != want {
		t.Errorf("%q: the second reading has the place %d, not %d", text, at, want)
	}
}

// plainRules are texts of each kind of rule that has no other in it, as they are told.
func plainRules() []string {
	list := []string{"ca", "policy 7", "ext 4", "critical 3", "host a.b", "hosts a.b"}
	for _, use := range useWords() {
		list = append(list, "use "+use)
	}
	for _, field := range fieldWords() {
		for _, sign := range []string{"=", "<", ">"} {
			list = append(list, field+" "+sign+" 5")
		}
	}
	return list
}

func TestEachKindOfRuleIsTold(t *testing.T) {
	for _, text := range plainRules() {
		wantTold(t, text, text)
		wantTold(t, " "+text+"  ", text)
		wantTold(t, strings.ReplaceAll(text, " ", "    "), text)
		wantTold(t, "not "+text, "(not "+text+")")
		wantTold(t, "("+text+")", text)
		wantTold(t, text+" or "+text, "("+text+" or "+text+")")
		wantTold(t, text+" and "+text, "("+text+" and "+text+")")
		wantPlace(t, text+" ca", len(text)+1)
		wantPlace(t, text+" "+text, len(text)+1)
		wantPlace(t, text+" not ca", len(text)+1)
		wantPlace(t, text+" ( ca )", len(text)+1)
		wantPlace(t, text+" )", len(text)+1)
		wantPlace(t, strings.ToUpper(text), 0)
		// Each word ahead of the last one begins a rule; without the last one words lack.
		words := strings.Fields(text)
		for i := 1; i < len(words); i++ {
			short := strings.Join(words[:i], " ")
			wantPlace(t, short, len(short))
			wantPlace(t, short+"  ", len(short)+2)
			for _, wrong := range []string{"(", ")", "and", "!", "-", "\x01"} {
				if wrong != "and" || words[0] != "host" && words[0] != "hosts" {
					wantPlace(t, short+" "+wrong+" "+words[i], len(short)+1)
				}
			}
		}
	}
}

func TestWordsWithAndWithoutBlanks(t *testing.T) {
	want := "(((not ca) and room < 2) or (use server or life = -3))"
	for _, text := range []string{
		"not ca and room < 2 or (use server or life = -3)",
		"not ca and room<2 or(use server or life=-3)",
		"   not   ca   and   room   <   2   or   (   use   server   or   life   =   -3   )   ",
		"((not(ca)and(room<2)))or(((use server)or(life=-3)))",
		want,
	} {
		wantTold(t, text, want)
	}
	wantPlace(t, "room=1and ca", 5)
	wantPlace(t, "use server(ca)", 10)
}

func TestBlanksAreNoPartOfWords(t *testing.T) {
	for _, row := range []struct {
		text string
		at   int
	}{
		{"c a", 0}, {"caor ca", 0}, {"ca orca", 3}, {"notca", 0}, {"useserver", 0}, {"use serv er", 4}, {"room = - 1", 7}, {"room = 1 2", 9},
		{"host a . b", 7}, {"ca,", 0}, {"ca;ca", 0}, {"(ca)ca", 4}, {"(ca)(ca)", 4}, {"ca(ca)", 2}, {"(ca)not ca", 4}, {"ca=1", 2}, {"=", 0}, {"<", 0}, {">", 0},
		{"room == 1", 6}, {"room <> 1", 6}, {"room <= 1", 6}, {"room ! 1", 5}, {"room=<1", 5}, {"room 1", 5}, {"room (", 5},
	} {
		wantPlace(t, row.text, row.at)
	}
}

// Every byte, alone, at both ends of a word, within one, between two and behind a rule.
func TestEveryByteInARule(t *testing.T) {
	for b := range 256 {
		c := string([]byte{byte(b)})
		run := b > 32 && b < 127 && !strings.Contains("()=<>", c)
		switch {
		case b == ' ':
			wantPlace(t, c, 1)
			wantTold(t, "ca"+c, "ca")
			wantTold(t, c+"ca", "ca")
			wantPlace(t, "c"+c+"a", 0)
			wantPlace(t, "ca or"+c, 6)
			continue
		case c == "(":
			wantPlace(t, c, 1)
			wantPlace(t, c+"ca", 3)
		default:
			wantPlace(t, c, 0)
			wantPlace(t, c+"ca", 0)
		}
		// A byte that stands in no run ends the word ahead of it.
		end := 0
		if !run {
			end = 2
		}
		wantPlace(t, "ca"+c, end)
		wantPlace(t, "c"+c+"a", 0)
		wantPlace(t, "ca "+c+" or ca", 3)
		wantPlace(t, "ca or ca "+c, 9)
		wantPlace(t, "use "+c, 4)
		digit := b >= '0' && b <= '9'
		if digit || b >= 'a' && b <= 'z' {
			wantTold(t, "host "+c, "host "+c)
		} else {
			wantPlace(t, "host "+c, 5)
		}
		if digit {
			wantTold(t, "room < "+c, "room < "+c)
		} else {
			wantPlace(t, "room < "+c, 7)
		}
	}
}

func TestBytesThatAreNoWords(t *testing.T) {
	for _, c := range []string{"\x00", "\t", "\n", "\r", "\x1f", "\x7f", "\x80", "\xff", "é", "\u00a0", "€"} {
		wantPlace(t, c, 0)
		wantPlace(t, " "+c, 1)
		wantPlace(t, "ca"+c, 2)
		wantPlace(t, "ca"+c+"or ca", 2)
		wantPlace(t, "ca or"+c+"ca", 5)
		wantPlace(t, "room"+c+"< 1", 4)
		wantPlace(t, "room <"+c+"1", 6)
		wantPlace(t, "room < 1"+c, 8)
		wantPlace(t, "host a"+c+"b", 6)
		wantPlace(t, "use"+c+"sign", 3)
	}
}

func TestOrAndAndFromTheLeft(t *testing.T) {
	for _, row := range [][2]string{
		{"ca or use sign or use log", "((ca or use sign) or use log)"},
		{"ca and use sign and use log", "((ca and use sign) and use log)"},
		{"ca or ca or ca or ca", "(((ca or ca) or ca) or ca)"},
		{"ca and ca and ca and ca", "(((ca and ca) and ca) and ca)"},
		{"ca or use sign and use log", "(ca or (use sign and use log))"},
		{"ca and use sign or use log", "((ca and use sign) or use log)"},
		{"ca and ca or use sign and use log or use crl", "(((ca and ca) or (use sign and use log)) or use crl)"},
		{"(ca or use sign) and use log", "((ca or use sign) and use log)"},
		{"ca or (use sign or use log)", "(ca or (use sign or use log))"},
		{"ca and (use sign and use log)", "(ca and (use sign and use log))"},
		{"(ca and use sign) or use log", "((ca and use sign) or use log)"},
		{"not ca or ca", "((not ca) or ca)"},
		{"not ca and ca", "((not ca) and ca)"},
		{"not (ca or ca)", "(not (ca or ca))"},
		{"not (ca and ca) or ca", "((not (ca and ca)) or ca)"},
		{"not not ca and not ca", "((not (not ca)) and (not ca))"},
		{"not (not (ca))", "(not (not ca))"},
		{"(((ca))) or ((ca or ((ca))))", "(ca or (ca or ca))"},
		{"host or or host and", "(host or or host and)"},
		{"hosts not and host ca", "(hosts not and host ca)"},
	} {
		wantTold(t, row[0], row[1])
		wantTold(t, row[1], row[1])
	}
	for _, row := range []struct {
		text string
		at   int
	}{
		{"or", 0}, {"and", 0}, {"or ca", 0}, {"ca or", 5}, {"ca and", 6}, {"ca or or ca", 6}, {"ca and and ca", 7}, {"ca or and ca", 6}, {"ca and or ca", 7},
		{"ca not", 3}, {"not", 3}, {"not or ca", 4}, {"not and", 4}, {"not )", 4}, {"()", 1}, {"( )", 2}, {")", 0}, {"(", 1}, {"(ca", 3}, {"(ca or", 6}, {"(ca or)", 6}, {"(ca))", 4},
		{"((ca)", 5}, {"ca or (ca and (ca)", 18}, {"ca or )ca", 6}, {"not (ca", 7}, {"not (", 5}, {"not not", 7},
	} {
		wantPlace(t, row.text, row.at)
	}
}

func TestNumbersOfARule(t *testing.T) {
	for _, row := range [][2]string{
		{"0", "0"}, {"-0", "0"}, {"00", "0"}, {"-00", "0"}, {"000000000000000", "0"}, {"-000000000000000", "0"}, {"1", "1"}, {"-1", "-1"}, {"01", "1"}, {"-01", "-1"}, {"10", "10"}, {"-10", "-10"},
		{"000000000000001", "1"}, {"-000000000000100", "-100"}, {"12345678901234", "12345678901234"}, {"123456789012345", "123456789012345"},
		{"999999999999999", "999999999999999"}, {"-999999999999999", "-999999999999999"}, {"100000000000000", "100000000000000"},
	} {
		for _, ahead := range []string{"policy ", "ext ", "critical ", "serial = ", "life < ", "noany > "} {
			wantTold(t, ahead+row[0], ahead+row[1])
			wantTold(t, ahead+row[1], ahead+row[1])
		}
	}
	for _, text := range []string{
		"-", "--1", "1-", "1-1", "+1", "x", "1x", "x1", "1.0", "1,000", "0x1", "1e3", "_1", "1_0", "0000000000000000", "-0000000000000000", "0000000000000001",
		"1234567890123456", "-1234567890123456", "9999999999999999", "9223372036854775807", "99999999999999999999", "ca", "or", "=", "(", ")", "\x80", "٣",
	} {
		for _, ahead := range []string{"policy ", "ext ", "critical ", "serial = ", "life < ", "noany > "} {
			wantPlace(t, ahead+text, len(ahead))
			wantPlace(t, "ca or ("+ahead+text+" ) and ca", 7+len(ahead))
		}
	}
	for _, ahead := range []string{"policy", "ext ", "critical", "serial = ", "life <", "noany >  "} {
		wantPlace(t, ahead, len(ahead))
	}
}

func TestHostsOfARule(t *testing.T) {
	for _, host := range []string{"a", "0", "a.b", "a-b.c", "a--b", "1.2.3.4.5.6.7.8.9.10", hostLong(100), strings.Repeat("a", 20), "host", "hosts", "ca", "not", "or", "and", "use", "room"} {
		wantTold(t, "host "+host, "host "+host)
		wantTold(t, "hosts  "+host, "hosts "+host)
	}
	for _, host := range []string{
		"*", "*.a", "*.a.b", "a.*.b", ".", ".a", "a.", "a..b", "A", "a.B", "-a", "a-", "a_b", "-", "a,b", "a@b", "(a)", "=", "1.2.3.4.5.6.7.8.9.10.11", hostLong(101), strings.Repeat("a", 21), "é",
	} {
		wantPlace(t, "host "+host, 5)
		wantPlace(t, "hosts   "+host+" or ca", 8)
	}
	wantPlace(t, "host", 4)
	wantPlace(t, "hosts ", 6)
	wantPlace(t, "host a(", 6)
}

func TestUsesOfARule(t *testing.T) {
	for _, use := range []string{"", "Sign", "signs", "sig", "sign,", "use", "ca", "1", "any", "not", "(", ")", "server=", "\x01"} {
		at := len("ca or use ")
		if use == "server=" {
			at += len("server")
		}
		wantPlace(t, "ca or use "+use, at)
	}
}

// nestsIn is a plain rule within so many others: "not" where the mask has a bit, ( ) elsewhere.
func nestsIn(count int, mask uint) string {
	ahead, behind := "", ""
	for i := range count {
		if mask>>i&1 == 1 {
			ahead += "not "
		} else {
			ahead, behind = ahead+"(", behind+")"
		}
	}
	return ahead + "ca" + behind
}

func TestNestsOfARule(t *testing.T) {
	r := rand.New(rand.NewSource(191))
	masks := []uint{0, 1<<22 - 1, 0x155555, 0x2aaaaa, 1, 1 << 20, 1 << 19}
	for range 60 {
		masks = append(masks, uint(r.Intn(1<<22)))
	}
	for _, mask := range masks {
		for count := range 21 {
			if _, at := impl.RuleShow(nestsIn(count, mask)); at != -1 {
				t.Error(count, mask, "is refused at", at)
			}
		}
		for _, count := range []int{21, 22} {
			// The place of the 21st: that of the first of as many as are behind it.
			text := nestsIn(count, mask)
			at := strings.Index(text, nestsIn(count-20, mask>>20))
			wantPlace(t, text, at)
			wantPlace(t, "ca or ca and "+text, 13+at)
		}
	}
	// Beside one another there may be more.
	twenty, one := nestsIn(20, 0), nestsIn(1, 1)
	for _, text := range []string{twenty + " or " + twenty, twenty + " and not ca and " + twenty, one + " or " + strings.Repeat(one+" and ", 20) + one, strings.Repeat("(ca) or ", 40) + "ca"} {
		if _, at := impl.RuleShow(text); at != -1 {
			t.Errorf("%q: beside one another: %d", text, at)
		}
	}
	wantPlace(t, "not "+twenty, 4+19)
	wantPlace(t, "not ca or not "+twenty, 14+19)
	wantPlace(t, "("+strings.Repeat("not ", 20)+"ca)", 1+4*19)
	wantPlace(t, strings.Repeat("not ", 20)+"(ca)", 80)
	wantPlace(t, "(not ca and "+strings.Repeat("(", 19)+"not ca"+strings.Repeat(")", 20), 12+19)
	wantPlace(t, strings.Repeat("(", 400), 20)
	wantPlace(t, strings.Repeat("not ", 100), 80)
	wantPlace(t, strings.Repeat("(", 20), 20)
	wantPlace(t, strings.Repeat("not ", 20), 80)
}

func TestHowLongARuleMayBe(t *testing.T) {
	for _, size := range []int{2, 399, 400} {
		blanks := strings.Repeat(" ", size-2)
		wantTold(t, "ca"+blanks, "ca")
		wantTold(t, blanks+"ca", "ca")
	}
	for _, size := range []int{401, 402, 1000, 100000} {
		blanks := strings.Repeat(" ", size-2)
		wantPlace(t, "ca"+blanks, size)
		wantPlace(t, blanks+"ca", size)
		wantPlace(t, strings.Repeat("x", size), size)
		wantPlace(t, strings.Repeat("\x00", size), size)
		wantPlace(t, strings.Repeat("(", size), size)
		wantPlace(t, blanks+"  ", size)
	}
	wantPlace(t, strings.Repeat(" ", 400), 400)
	wantPlace(t, strings.Repeat("x", 400), 0)
	wantPlace(t, strings.Repeat(" ", 399)+"x", 399)
	// As many words as may be: what is told of them is longer than a rule may be.
	text := "use log" + strings.Repeat(" or ca", 65)
	text += strings.Repeat(" ", 400-len(text))
	wantTold(t, text, strings.Repeat("(", 65)+"use log"+strings.Repeat(" or ca)", 65))
	wantPlace(t, text+" ", 401)
}

func TestTextsWithoutARule(t *testing.T) {
	for size := range 5 {
		wantPlace(t, strings.Repeat(" ", size), size)
	}
}

// allRows calls see with every row of at most so many words.
func allRows(words []string, most int, see func(row []string)) {
	var grow func(row []string)
	grow = func(row []string) {
		see(row)
		if len(row) < most {
			for _, word := range words {
				grow(append(row[:len(row):len(row)], word))
			}
		}
	}
	grow(nil)
}

func TestEveryShortRowOfWords(t *testing.T) {
	words := []string{"ca", "not", "and", "or", "(", ")", "use", "sign", "room", "<", "5"}
	wrong := 0
	allRows(words, 5, func(row []string) {
		text := strings.Join(row, " ")
		x, want := slowRule(text)
		got, at := impl.RuleShow(text)
		if at != int64(want) || want == -1 && got != x.told() || want != -1 && got != "" {
			wrong++
			if wrong < 10 {
				t.Errorf("%q: got %q %d, want %d", text, got, at, want)
			}
		}
	})
}

// ruleBegins tells whether a rule begins with a text, by trying which few words may follow, and which ) behind these.
func ruleBegins(text string, words []string) bool {
	found := false
	allRows(words, 2, func(row []string) {
		for marks := range 4 {
			_, at := impl.RuleShow(text + " " + strings.Join(row, " ") + strings.Repeat(" )", marks))
			found = found || at == -1
		}
	})
	return found
}

// The place is that of the first word with which no rule begins, taken at its word: with those ahead one does.
func TestNoRuleBeginsWithTheWordThatIsTold(t *testing.T) {
	words := []string{"ca", "not", "or", "(", ")", "room", "=", "5"}
	known := map[string]bool{}
	allRows(words, 3, func(row []string) {
		text := strings.Join(row, " ")
		known[text] = ruleBegins(text, words)
		_, at := impl.RuleShow(text)
		switch {
		case at == -1 || at == int64(len(text)):
			if !known[text] {
				t.Errorf("%q: no rule begins so", text)
			}
		case !known[strings.TrimRight(text[:at], " ")] || known[text]:
			t.Errorf("%q: told at %d, where it may go on", text, at)
		default:
			end := at + int64(len(strings.Fields(text[at:])[0]))
			if known[text[:end]] {
				t.Errorf("%q: a rule begins with %q", text, text[:end])
			}
		}
	})
}

func TestAnyRuleIsToldAsItIsMeant(t *testing.T) {
	r := rand.New(rand.NewSource(192))
	again := 0
	for range 6000 {
		x := anyTree(r, r.Intn(5))
		text := spread(r, x.words(r, 0))
		if len(text) > 400 {
			continue
		}
		wantTold(t, text, x.told())
		if told := x.told(); len(told) <= 400 && nestsOf(told) <= 20 {
			again++
			wantTold(t, told, told)
		}
	}
	if again < 4000 {
		t.Error("few were told again:", again)
	}
}

func TestAnyTextIsReadAsTheSecondReadingDoes(t *testing.T) {
	r := rand.New(rand.NewSource(193))
	rules, others := 0, 0
	check := func(text string) {
		x, want := slowRule(text)
		got, at := impl.RuleShow(text)
		if at != int64(want) || want == -1 && got != x.told() || want != -1 && got != "" {
			t.Fatalf("%q: got %q %d, want %q %d", text, got, at, x.told(), want)
		}
		if at == -1 {
			rules++
		} else {
			others++
		}
	}
	signs := []string{"(", ")", "=", "<", ">", " ", "not ", " or ", " and ", "ca", "0", "-", "a", "\x1f", "\x7f", "\x80", ".", "*"}
	for range 20000 {
		b := []byte(spread(r, anyTree(r, r.Intn(5)).words(r, 0)))
		for range r.Intn(3) {
			at := r.Intn(len(b) + 1)
			end := min(len(b), at+r.Intn(4))
			b = slices.Replace(b, at, end, []byte(oneOf(r, append(signs, "")...))...)
		}
		check(string(b))
	}
	for range 5000 {
		check(anyText(r, "ca or()=<>01-not and\x00\xff", 30))
	}
	if rules < 5000 || others < 5000 {
		t.Error("too few of one kind", rules, others)
	}
}

// judgedCert has something for each kind of rule.
func judgedCert() impl.Cert {
	c := caCert()
	c.Serial, c.From, c.To, c.Room, c.Uses = 40, 10, 90, 3, impl.UsCert|impl.UsLog
	c.Names = gens(hostGen("x.a.b"), hostGen("*.a.b"), hostGen("c"), mailGen("u@d.e"), nameGen("f"))
	c.Policies, c.NeedPolicy, c.NoMap, c.NoAny = []int64{7, 0}, 0, 10, -1
	c.Exts = []impl.Ext{{Id: 3, Critical: true}, {Id: 4}, {Id: 900, Critical: true}}
	return c
}

func wantJudged(t *testing.T, text string, c impl.Cert, want bool) {
	t.Helper()
	if got, code := impl.Judge(text, c); got != want || code != 0 {
		t.Errorf("%q: got %v %d, want %v", text, got, code, want)
	}
	if got, code := impl.Judge("not ("+text+")", c); got == want || code != 0 {
		t.Errorf("not %q: got %v %d", text, got, code)
	}
}

func TestJudgedByEachKind(t *testing.T) {
	for _, row := range []struct {
		text string
		want bool
	}{
		{"ca", true}, {"policy 7", true}, {"policy 0", true}, {"policy -0", true}, {"policy 007", true}, {"policy 1", false}, {"policy -7", false}, {"policy 700", false},
		{"ext 3", true}, {"ext 4", true}, {"ext 900", true}, {"ext 0", false}, {"ext 5", false}, {"ext -3", false}, {"critical 3", true}, {"critical 4", false}, {"critical 900", true}, {"critical 5", false},
		{"host a.b", true}, {"host b", true}, {"host x.a.b", true}, {"host c", true}, {"host y.a.b", false}, {"host d.e", false}, {"host e", false}, {"host a", false}, {"host z.c", false}, {"host x", false},
		{"hosts a.b", false}, {"hosts c", false}, {"hosts b", false}, {"hosts e", false}, {"hosts x", false},
	} {
		wantJudged(t, row.text, judgedCert(), row.want)
	}
	wantJudged(t, "ca", endCert(), false)
	for bit, use := range useWords() {
		for _, uses := range []int64{0, 255, 1 << bit, 255 &^ (1 << bit), impl.UsCert | impl.UsLog} {
			wantJudged(t, "use "+use, changed(endCert(), func(c *impl.Cert) { c.Uses = uses }), uses>>bit&1 == 1)
		}
	}
}

func TestJudgedHosts(t *testing.T) {
	rows := []struct {
		why         string
		names       []impl.GenName
		some, every bool
	}{
		{"none", nil, false, true},
		{"none of that Kind", gens(mailGen("u@a.b"), nameGen("a.b"), addrGen(5, 0)), false, true},
		{"one within", gens(hostGen("x.a.b")), true, true},
		{"the base itself", gens(hostGen("a.b")), true, true},
		{"wild, of the base", gens(hostGen("*.a.b")), true, true},
		{"wild, within", gens(hostGen("*.x.a.b")), true, true},
		{"wild, above", gens(hostGen("*.b.c")), false, false},
		{"above", gens(hostGen("b")), false, false},
		{"a label that ends so", gens(hostGen("xa.b")), false, false},
		{"one that begins so", gens(hostGen("a.b.c")), false, false},
		{"one not within", gens(hostGen("c")), false, false},
		{"one within and one not", gens(hostGen("c"), hostGen("x.a.b")), true, false},
		{"one within and one not, turned", gens(hostGen("a.b"), hostGen("c")), true, false},
		{"two within", gens(hostGen("y.x.a.b"), hostGen("*.a.b")), true, true},
		{"one within, and others of other Kinds", gens(mailGen("u@c"), hostGen("a.b"), nameGen("c")), true, true},
		{"one not within, and others of other Kinds", gens(mailGen("u@a.b"), hostGen("c"), nameGen("a.b")), false, false},
	}
	for _, row := range rows {
		c := changed(endCert(), func(c *impl.Cert) { c.Names = row.names })
		wantJudged(t, "host a.b", c, row.some)
		wantJudged(t, "hosts a.b", c, row.every)
	}
	// The Subject is no Name.
	wantJudged(t, "host somebody", endCert(), false)
}

func TestJudgedFields(t *testing.T) {
	has := map[string]int64{"serial": 40, "life": 80, "room": 3, "names": 5, "policies": 2, "exts": 3, "need": 0, "nomap": 10, "noany": -1, "scheme": 2}
	other := map[string]int64{"serial": 7, "life": 100, "room": -1, "names": 0, "policies": 0, "exts": 0, "need": -1, "nomap": -1, "noany": -1, "scheme": 1}
	for _, row := range []struct {
		c   impl.Cert
		has map[string]int64
	}{{judgedCert(), has}, {endCert(), other}} {
		for _, field := range fieldWords() {
			n := row.has[field]
			for _, asked := range []int64{n - 1, n, n + 1, 0, -1, 1, 999999999999999, -999999999999999} {
				number := strconv.FormatInt(asked, 10)
				wantJudged(t, field+" = "+number, row.c, n == asked)
				wantJudged(t, field+" < "+number, row.c, n < asked)
				wantJudged(t, field+" > "+number, row.c, n > asked)
			}
		}
	}
	great := changed(judgedCert(), func(c *impl.Cert) { c.Serial, c.From, c.To = 1<<62, 0, impl.MaxTime })
	wantJudged(t, "serial > 999999999999999 and life = 253402300799", great, true)
	small := changed(judgedCert(), func(c *impl.Cert) { c.Serial, c.From, c.To = 1, 5, 5 })
	wantJudged(t, "serial = 1 and life = 0", small, true)
}

func TestJudgeTellsTheTextFirst(t *testing.T) {
	texts := []string{"", " ", "x", "ca or", "(ca", "room", "use x", "host *.a.b", "policy 0000000000000000", nestsIn(21, 0), nestsIn(21, 1<<21-1), "ca" + strings.Repeat(" ", 399)}
	for _, text := range texts {
		for _, c := range []impl.Cert{{}, endCert(), judgedCert(), greatCert()} {
			if got, code := impl.Judge(text, c); got || code != impl.RlText {
				t.Errorf("%q: got %v %d", text, got, code)
			}
		}
	}
	for _, row := range certCases() {
		for _, text := range []string{"ca or not ca", nestsIn(20, 0) + " or not ca"} {
			got, code := impl.Judge(text, row.c)
			if row.want != (code == 0) || got != row.want || !row.want && code != impl.RlCert {
				t.Error(row.why, got, code)
			}
		}
		if got, code := impl.Judge("ca or", row.c); got || code != impl.RlText {
			t.Error(row.why, "without a rule", got, code)
		}
	}
}

// judgeable is a certificate with what plainTree asks for.
func judgeable(r *rand.Rand) impl.Cert {
	c := anyCert(r)
	if r.Intn(2) == 0 {
		c.Serial, c.From, c.To = 1+r.Int63n(3), 0, r.Int63n(3)
		c.Policies = []int64{r.Int63n(2), 2 + r.Int63n(2)}
		c.Exts = []impl.Ext{{Id: 1 + r.Int63n(2), Critical: r.Intn(2) == 0}, {Id: 3}}
		c.Names = someNames(r, 3, hostGen("a"), hostGen("*.x.y"), hostGen("b.x.y"), hostGen("or"), hostGen("0"), mailGen("u@x.y"))
		c.Subject = partsOf("s")
	}
	return c
}

func TestAnyRuleHoldsAsItIsMeant(t *testing.T) {
	r := rand.New(rand.NewSource(194))
	var yes, no int
	for range 6000 {
		x := anyTree(r, r.Intn(5))
		text := spread(r, x.words(r, 0))
		if len(text) > 400 {
			continue
		}
		c := judgeable(r)
		got, code := impl.Judge(text, c)
		if want := x.holds(c); got != want || code != 0 {
			t.Fatalf("%q: got %v %d, want %v of %v", text, got, code, want, c)
		}
		if got {
			yes++
		} else {
			no++
		}
		if told := x.told(); len(told) <= 400 && nestsOf(told) <= 20 {
			if as, code := impl.Judge(told, c); as != got || code != 0 {
				t.Fatalf("%q holds: %v; told as %q: %v %d", text, got, told, as, code)
			}
		}
	}
	if yes < 1500 || no < 1500 {
		t.Error("too few of one kind", yes, no)
	}
}

// P20: both, one of, and not mean what they say, whatever the rules are.
func TestBothOneOfAndNotMeanWhatTheySay(t *testing.T) {
	r := rand.New(rand.NewSource(195))
	for range 3000 {
		c := judgeable(r)
		a, b := anyTree(r, 2).told(), anyTree(r, 2).told()
		judged := func(text string) bool {
			holds, code := impl.Judge(text, c)
			if code != 0 {
				t.Fatalf("%q: %d", text, code)
			}
			return holds
		}
		x, y := judged(a), judged(b)
		if judged(a+" and "+b) != (x && y) || judged(a+" or "+b) != (x || y) || judged("not "+a) != !x {
			t.Fatal(a, x, b, y)
		}
		if judged("not ("+a+" and "+b+")") != judged("not "+a+" or not "+b) || judged(a+" or "+b+" and "+a) != x {
			t.Fatal(a, x, b, y, "turned")
		}
	}
}

func wantLint(t *testing.T, why string, rules []impl.LintRule, c impl.Cert, want ...int64) {
	t.Helper()
	if got, code := impl.Lint(rules, c); code != 0 || !slices.Equal(got, want) {
		t.Error(why, "got", got, code, "want", want)
	}
}

func wantNoLint(t *testing.T, why string, want int64, rules []impl.LintRule, c impl.Cert) {
	t.Helper()
	if got, code := impl.Lint(rules, c); code != want || len(got) != 0 {
		t.Error(why, "got", got, code, "want", want)
	}
}

func TestLintTellsWhatIsBroken(t *testing.T) {
	c := judgedCert()
	yes, no := "ca", "not ca"
	for _, row := range []struct {
		when, must string
		broken     bool
	}{{"", yes, false}, {"", no, true}, {yes, yes, false}, {yes, no, true}, {no, yes, false}, {no, no, false}} {
		var want []int64
		if row.broken {
			want = []int64{9}
		}
		wantLint(t, row.when+": "+row.must, []impl.LintRule{{Id: 9, When: row.when, Must: row.must}}, c, want...)
	}
	wantLint(t, "no rules", nil, c)
	// They are told in their order, each as often as it is broken, whatever its Id is.
	rules := []impl.LintRule{
		{Id: 5, Must: no}, {Id: 2, When: yes, Must: no}, {Id: 3, Must: yes}, {Id: -7, When: "use log", Must: "life < 80"}, {Id: 5, Must: no},
		{Id: 0, When: "names > 4", Must: "hosts a.b"}, {Id: 8, When: "use sign", Must: no}, {Id: 1 << 62, Must: "critical 4"}, {Id: 5, When: yes, Must: yes}, {Id: -1 << 63, Must: "ext 5"},
	}
	wantLint(t, "in order", rules, c, 5, 2, -7, 5, 0, 1<<62, -1<<63)
	slices.Reverse(rules)
	wantLint(t, "turned", rules, c, -1<<63, 1<<62, 0, 5, -7, 2, 5)
	wantLint(t, "of another", rules, endCert(), -1<<63, 1<<62, 3)
}

func TestLintThatIsNone(t *testing.T) {
	c, no := judgedCert(), impl.LintRule{Id: 1, Must: "not ca"}
	twenty := slices.Repeat([]impl.LintRule{no}, 20)
	wantLint(t, "MaxLint", twenty, c, slices.Repeat([]int64{1}, 20)...)
	wantNoLint(t, "one more", impl.RlText, append(slices.Clone(twenty), no), c)
	wantNoLint(t, "one more, and no certificate", impl.RlText, append(slices.Clone(twenty), no), impl.Cert{})
	wantNoLint(t, "many more", impl.RlText, slices.Repeat(twenty, 200), c)
	bad := []string{" ", "x", "ca or", "(ca", "host *.a.b", nestsIn(21, 0), "ca" + strings.Repeat(" ", 399)}
	good := "ca" + strings.Repeat(" ", 398)
	wantLint(t, "as long as may be", []impl.LintRule{{Id: 4, When: good, Must: "not " + nestsIn(19, 5)}, {Id: 6, When: nestsIn(20, 0), Must: good}}, c, 4)
	for _, text := range append(bad, "") {
		for _, when := range []string{"", "ca", "not ca"} {
			for at := range 3 {
				rules := []impl.LintRule{no, no}
				rules = slices.Insert(rules, at, impl.LintRule{Id: 2, When: when, Must: text})
				wantNoLint(t, "Must "+text, impl.RlText, rules, c)
				wantNoLint(t, "Must "+text+", no certificate", impl.RlText, rules, impl.Cert{})
			}
		}
		if text == "" {
			continue
		}
		for _, must := range []string{"ca", "not ca", "", "x"} {
			rules := []impl.LintRule{no, {Id: 2, When: text, Must: must}, no}
			wantNoLint(t, "When "+text, impl.RlText, rules, c)
			wantNoLint(t, "When "+text+", no certificate", impl.RlText, rules, impl.Cert{})
		}
	}
	for _, row := range certCases() {
		if row.want {
			wantLint(t, row.why, []impl.LintRule{{Id: 3, When: "ca or not ca", Must: "ca and not ca"}}, row.c, 3)
		} else {
			wantNoLint(t, row.why, impl.RlCert, []impl.LintRule{no}, row.c)
			wantNoLint(t, row.why+", no rules", impl.RlCert, nil, row.c)
		}
	}
}

func TestAnyLintIsWhatJudgeSays(t *testing.T) {
	r := rand.New(rand.NewSource(196))
	broken := 0
	for range 800 {
		c := judgeable(r)
		var rules []impl.LintRule
		var want []int64
		for range r.Intn(21) {
			when, must := anyTree(r, r.Intn(3)), anyTree(r, r.Intn(3))
			l := impl.LintRule{Id: r.Int63n(5), When: when.told(), Must: must.told()}
			holds := when.holds(c)
			if r.Intn(3) == 0 {
				l.When, holds = "", true
			}
			if holds && !must.holds(c) {
				want = append(want, l.Id)
			}
			rules = append(rules, l)
		}
		broken += len(want)
		wantLint(t, "any", rules, c, want...)
	}
	if broken < 1000 {
		t.Error("few are broken:", broken)
	}
}
