package tests

import (
	"math"
	"math/rand"
	"strconv"
	"strings"
	"testing"

	"loop.example/g00041/impl"
)

type showCase struct {
	name string
	list []impl.SType
	v    impl.Val
	text string
}

// checkShows holds values to their texts, both ways; a beginning of a text is no text of
// its type, and nothing may stand ahead of it or behind it.
func checkShows(t *testing.T, rows []showCase) {
	t.Helper()
	for _, row := range rows {
		if text, ok := impl.ShowVal(row.list, 0, row.v); !ok || text != row.text {
			t.Error(row.name, "got", text, ok, "want", row.text)
			continue
		}
		if v, ok := impl.ReadVal(row.list, 0, row.text); !ok || !sameVal(v, row.v) {
			t.Error(row.name, "read", v, ok)
		}
		var others []string
		for _, mark := range []string{" ", "\n", "0", "-", "+", "\"", "'", ",", ", ", "}", "]", "\\", "?", "\x00", "\xff"} {
			others = append(others, mark+row.text, row.text+mark)
		}
		for end := range row.text {
			if end < 40 {
				others = append(others, row.text[:end], row.text[:end]+" "+row.text[end:])
			}
		}
		checkOthers(t, row, others)
	}
}

// checkOthers asks of texts near to one that they are read as what they say, or not at all.
func checkOthers(t *testing.T, row showCase, others []string) {
	t.Helper()
	for _, other := range others {
		v, ok := impl.ReadVal(row.list, 0, other)
		if !ok {
			if !noVal(v) {
				t.Error(row.name, "a value beside false", other, v)
			}
			continue
		}
		if again, ok := impl.ShowVal(row.list, 0, v); !ok || again != other || sameVal(v, row.v) {
			t.Error(row.name, "read", other, "as", v)
		}
	}
}

func TestShownSimple(t *testing.T) {
	num := func(n int64) impl.Val { return impl.Val{N: n} }
	b := func(list ...byte) impl.Val { return impl.Val{B: list} }
	text := func(s string) impl.Val { return impl.Val{B: []byte(s)} }
	whole := ofInt(-impl.MaxWhole, impl.MaxWhole)
	checkShows(t, []showCase{
		{"no", []impl.SType{aBool}, num(0), "no"},
		{"yes", []impl.SType{aBool}, num(1), "yes"},
		{"0", whole, num(0), "0"},
		{"7", whole, num(7), "7"},
		{"10", whole, num(10), "10"},
		{"-1", whole, num(-1), "-1"},
		{"MaxWhole", whole, num(impl.MaxWhole), "1000000000000000"},
		{"-MaxWhole", whole, num(-impl.MaxWhole), "-1000000000000000"},
		{"enum 0", ofEnum(3, false), num(0), "0"},
		{"enum 3", ofEnum(3, false), num(3), "3"},
		{"ext enum", ofEnum(3, true), num(impl.MaxEnum), "1000000"},
		{"no bytes", ofBytes(0, 3), b(), "''"},
		{"bytes", ofBytes(0, 3), b(0, 171, 255), "'00abff'"},
		{"no letters", ofText(0, 3), text(""), `""`},
		{"letters", ofText(0, 9), text("a b~"), `"a b~"`},
		{"a quote", ofText(0, 9), text(`"`), `"\""`},
		{"a backslash", ofText(0, 9), text(`\`), `"\\"`},
		{"quotes", ofText(0, 9), text(`""a"`), `"\"\"a\""`},
		{"backslashes", ofText(0, 9), text(`\\a\`), `"\\\\a\\"`},
		{"both", ofText(0, 9), text(`\"\`), `"\\\"\\"`},
		{"both the other way", ofText(0, 9), text(`"\"`), `"\"\\\""`},
		{"marks of other kinds", ofText(0, 9), text(`'}], +?:`), `"'}], +?:"`},
	})
}

func TestShownSeqs(t *testing.T) {
	num := func(n int64) impl.Val { return impl.Val{N: n} }
	more := func(v impl.Val, list ...[]byte) impl.Val { v.More = list; return v }
	opts := []impl.SType{seqOf(1, 2, 1), withOpt(anInt), aBool}
	ext := []impl.SType{withExt(seqOf(1, 1)), anOpt}
	twelve := []impl.SType{seqOf(times(1, 12)...), anOpt}
	last := kidsOf(out, num(1), out, out, out, out, out, out, out, out, num(0), num(1))
	checkShows(t, []showCase{
		{"no field", []impl.SType{seqOf()}, impl.Val{}, "{}"},
		{"one field", []impl.SType{seqOf(1), aBool}, one(num(1)), "{0=yes}"},
		{"all there", opts, kidsOf(num(-5), num(1), num(300)), "{0=-5, 1=yes, 2=300}"},
		{"the first out", opts, kidsOf(out, num(1), num(300)), "{1=yes, 2=300}"},
		{"the last out", opts, kidsOf(num(5), num(0), out), "{0=5, 1=no}"},
		{"both out", opts, kidsOf(out, num(0), out), "{1=no}"},
		{"all out", ext, kidsOf(out, out), "{}"},
		{"1 and 10 and 11", twelve, last, "{1=yes, 10=no, 11=yes}"},
		{"one of More", ext, more(kidsOf(out, num(1)), []byte{130, 0}), "{1=yes, +'8200'}"},
		{"More alone", ext, more(kidsOf(out, out), []byte{130, 0}), "{+'8200'}"},
		{"four of More", ext, more(kidsOf(num(0), num(1)), []byte{131, 0}, []byte{130, 1, 255}, []byte{130, 0}, []byte{162, 2, 4, 0}), "{0=no, 1=yes, +'8300', +'8201ff', +'8200', +'a2020400'}"},
		{"a seq in a seq", []impl.SType{seqOf(1, 1), withOpt(seqOf(2)), aBool}, kidsOf(out, one(num(1))), "{1={0=yes}}"},
	})
}

func TestShownListsAndChoices(t *testing.T) {
	num := func(n int64) impl.Val { return impl.Val{N: n} }
	kept := func(b ...byte) impl.Val { return impl.Val{N: -1, B: b} }
	number := ofInt(-1, 3)[0]
	open := []impl.SType{seqOf(1, 2), number, withExt(openOf(0, 4, 3)), choiceOf(4, 4), aBool}
	checkShows(t, []showCase{
		{"an empty list", []impl.SType{listOf(1, 0, 3), anInt}, impl.Val{}, "[]"},
		{"a list of one", []impl.SType{listOf(1, 0, 3), anInt}, one(num(7)), "[7]"},
		{"a list of three", []impl.SType{listOf(1, 0, 3), anInt}, kidsOf(num(7), num(-1), num(0)), "[7, -1, 0]"},
		{"a list of lists", []impl.SType{listOf(1, 0, 3), listOf(2, 0, 3), aBool}, kidsOf(impl.Val{}, kidsOf(num(1), num(0))), "[[], [yes, no]]"},
		{"a list of texts", []impl.SType{listOf(1, 0, 3), ofText(0, 9)[0]}, kidsOf(impl.Val{B: []byte(`], "`)}, impl.Val{}), `["], \"", ""]`},
		{"a choice", []impl.SType{choiceOf(1, 1), anInt}, pick(1, num(-5)), "1:-5"},
		{"the last of twelve", []impl.SType{choiceOf(times(1, 12)...), aBool}, pick(11, num(1)), "11:yes"},
		{"a choice of a choice", []impl.SType{choiceOf(2, 1), choiceOf(2, 2), aBool}, pick(1, pick(0, num(1))), "1:0:yes"},
		{"ext, a Kid", []impl.SType{withExt(choiceOf(1)), aBool}, pick(0, num(1)), "0:yes"},
		{"ext, kept", []impl.SType{withExt(choiceOf(1)), aBool}, kept(129, 1, 10), "?'81010a'"},
		{"an open", open, kidsOf(num(0), one(num(1))), "{0=0, 1=yes}"},
		{"an open's choice", open, kidsOf(num(1), one(pick(1, num(1)))), "{0=1, 1=1:yes}"},
		{"an open that kept", open, kidsOf(num(2), impl.Val{B: []byte{4, 1, 9}}), "{0=2, 1=?'040109'}"},
		{"an open that kept, below 0", open, kidsOf(num(-1), impl.Val{B: []byte{128, 0}}), "{0=-1, 1=?'8000'}"},
	})
}

func TestTextsThatAreNone(t *testing.T) {
	number := ofInt(-1, 3)[0]
	rows := []struct {
		name  string
		list  []impl.SType
		texts []string
	}{
		{"bool", []impl.SType{aBool}, []string{"", "0", "1", "Yes", "YES", "true", "noyes", "yesno", "n", "ye", "no ", " no", "yes\n", "\"yes\""}},
		{"int", ofInt(-5, 300), []string{"", "-", "+5", "-0", "00", "07", "-05", "0x5", "5.0", "1e1", "1_0", "--5", "5-", "-5-", "301", "-6", "99999999999999999999", "-99999999999999999999", "9223372036854775808", "5,", "\"5\"", "'05'", "٣", "５"}},
		{"the greatest", ofInt(-impl.MaxWhole, impl.MaxWhole), []string{"1000000000000001", "-1000000000000001", "01000000000000000", "1,000"}},
		{"enum", ofEnum(3, false), []string{"4", "-1", "-0", "03", "+3", "1000000"}},
		{"ext enum", ofEnum(3, true), []string{"1000001", "-1", "03", "04"}},
		{"bytes", ofBytes(1, 3), []string{"", "'", "''", "'0'", "'000'", "'00", "00'", "00", "'0A'", "'0g'", "' 00'", "'00 '", "'00' ", "'00 00'", "\"00\"", "'00000000'", "'00''00'", "?'00'", "+'00'", "'0\\0'"}},
		{"text", ofText(1, 4), []string{"", "\"", `""`, `"a`, `a"`, `a`, `'61'`, `"a""`, `"a"b`, `"\a"`, `"a\"`, `"\"`, `"\\\"`, `"abcde"`, "\"\n\"", "\"\x1f\"", "\"\x7f\"", "\"\x80\"", "\"é\"", "\"Ł\"", "\"\xff\"", `"a" `, ` "a"`, `"a\`, `"\\a\ "`}},
		{"seq", []impl.SType{seqOf(1, 2, 2), aBool, withOpt(anInt)}, []string{
			"", "{", "}", "{}", "{0=yes", "0=yes}", "{0=yes,}", "{0=yes, }", "{,0=yes}", "{, 0=yes}", "{ 0=yes}", "{0=yes }", "{0 =yes}", "{0= yes}", "{0:yes}", "{00=yes}", "{yes}",
			"{0=yes,1=5}", "{0=yes,  1=5}", "{0=yes 1=5}", "{0=yes,1=5, 2=6}", "{1=5}", "{1=5, 0=yes}", "{0=yes, 2=5, 1=6}", "{0=yes, 1=5, 1=5}", "{0=yes, 0=yes}", "{0=yes, 3=5}", "{0=yes, 01=5}", "{0=yes, -1=5}",
			"{0=yes, 1=05}", "{0=yes, 1=301}", "{0=yes, 1=}", "{0=yes, 1=5}}", "[0=yes]", "{0=yes, +'8300'}", "{+'8300'}", "{0=yes, ?'8300'}"}},
		{"ext seq", []impl.SType{withExt(seqOf(1)), anOpt}, []string{
			"{+}", "{+'}", "{+''}", "{+'81'}", "{+'8000'}", "{+'0400'}", "{+'c100'}", "{+'810000'}", "{+'818100'}", "{+'8100}", "{'8100'}", "{ +'8100'}", "{+ '8100'}", "{?'8100'}", "{1=yes}", "{1='8100'}",
			"{+'8100',+'8100'}", "{+'8100'+'8100'}", "{+'8100', }", "{+'8100', 0=yes}", "{0=yes+'8100'}", "{0=yes,+'8100'}", "{+'8100', +'8100', +'8100', +'8100', +'8100'}"}},
		{"list", []impl.SType{listOf(1, 1, 3), aBool}, []string{"", "[", "]", "[]", "[yes", "yes]", "yes", "[yes,]", "[yes, ]", "[, yes]", "[ yes]", "[yes ]", "[yes,no]", "[yes no]", "[yes,  no]", "[yes, no, yes, no]", "{yes}", "[yes]]", "[yes], ", "[0=yes]"}},
		{"choice", []impl.SType{choiceOf(1, 1, 1, 1, 1, 1, 1, 1, 1, 1, 1), aBool}, []string{"", "yes", ":yes", "0", "0:", "0yes", "0=yes", "00:yes", "+0:yes", "-0:yes", "-1:yes", "11:yes", "01:yes", "0: yes", "0 :yes", "0:yes:yes", "0:5", "?'8b00'", "99999999999999999999:yes", "-1:'8b00'"}},
		{"ext choice", []impl.SType{withExt(choiceOf(1)), aBool}, []string{"?", "?''", "?'8000'", "?'0400'", "?'8101'", "?'818100'", "'8100'", "? '8100'", "?'8100", "?8100", "1:'8100'", "-1:'8100'", "1:yes", "??'8100'", "+'8100'"}},
		{"open", []impl.SType{seqOf(1, 2), number, openOf(0, 3), aBool}, []string{"{0=0}", "{0=0, 1=5}", "{0=0, 1=0:yes}", "{0=1, 1=yes}", "{0=-1, 1=yes}", "{0=1, 1=?'0400'}", "{0=0, 1=?'0400'}", "{1=yes}", "{1=yes, 0=0}", "{0=1}", "{0=00, 1=yes}"}},
		{"ext open", []impl.SType{seqOf(1, 2), number, withExt(openOf(0, 3)), aBool}, []string{"{0=0, 1=?'0400'}", "{0=1, 1=yes}", "{0=1, 1='0400'}", "{0=1, 1=?''}", "{0=1, 1=?'0000'}", "{0=1, 1=?'048100'}", "{0=1, 1=? '0400'}", "{0=1}", "{0=1, 1=?'0400}"}},
	}
	for _, row := range rows {
		if !impl.SchemaOk(row.list) {
			t.Error(row.name, "is no schema")
		}
		for _, text := range row.texts {
			if v, ok := impl.ReadVal(row.list, 0, text); ok || !noVal(v) {
				t.Error(row.name, text, "read as", v, ok)
			}
		}
	}
}

func TestTextsOfTypesThatAreNone(t *testing.T) {
	list := []impl.SType{seqOf(4, 2, 3), aBool, anOpt, openOf(0, 4), anInt}
	if !impl.SchemaOk(list) {
		t.Fatal("no schema")
	}
	for _, row := range []struct {
		t  int64
		ok bool
	}{{-1, false}, {1, true}, {2, false}, {3, false}, {5, false}, {math.MinInt64, false}, {math.MaxInt64, false}} {
		if text, ok := impl.ShowVal(list, row.t, impl.Val{}); ok != row.ok || ok != (text == "no") || !ok && text != "" {
			t.Error(row, text, ok)
		}
		if v, ok := impl.ReadVal(list, row.t, "no"); ok != row.ok || !noVal(v) {
			t.Error("read", row, v, ok)
		}
	}
	for _, bad := range [][]impl.SType{nil, {aBool, {}}, {anOpt}, {withExt(aBool)}} {
		if text, ok := impl.ShowVal(bad, 0, impl.Val{}); ok || text != "" {
			t.Error("no schema", bad, text)
		}
		if v, ok := impl.ReadVal(bad, 0, "no"); ok || !noVal(v) {
			t.Error("no schema, read", bad, v)
		}
	}
	rows := []struct {
		name string
		t    int64
		v    impl.Val
	}{
		{"a bool 2", 1, impl.Val{N: 2}},
		{"a bool out", 1, out},
		{"an int above", 4, impl.Val{N: 301}},
		{"a seq without Kids", 0, impl.Val{}},
		{"a seq with More", 0, impl.Val{Kids: []impl.Val{{}, out, one(impl.Val{})}, More: [][]byte{{137, 0}}}},
		{"an open without a Kid", 0, kidsOf(impl.Val{N: 1}, out, one(impl.Val{}))},
	}
	for _, row := range rows {
		if text, ok := impl.ShowVal(list, row.t, row.v); ok || text != "" {
			t.Error(row.name, text)
		}
	}
}

// keptRows is a list of lists with so many values each, all of them of seven marks.
func keptRows(counts ...int) (impl.Val, string) {
	var v impl.Val
	var rows []string
	for _, count := range counts {
		var row impl.Val
		for range count {
			row.Kids = append(row.Kids, impl.Val{N: -1, B: []byte{129, 0}})
		}
		v.Kids = append(v.Kids, row)
		rows = append(rows, "["+strings.Join(strings.Fields(strings.Repeat("?'8100' ", count)), ", ")+"]")
	}
	return v, "[" + strings.Join(rows, ", ") + "]"
}

// A list of n has 9 n marks, and two more behind the one ahead.
func TestTextsAsLongAsMayBe(t *testing.T) {
	list := []impl.SType{listOf(1, 0, 200), listOf(2, 0, 200), withExt(choiceOf(3)), aBool}
	full := make([]int, 33)
	for i := range full {
		full[i] = 200
	}
	for _, row := range []struct {
		counts []int
		length int
		ok     bool
	}{
		{append(full, 1, 1, 1, 1, 1, 53), impl.MaxText, true},
		{append(full, 1, 58), impl.MaxText + 1, false},
		{append(full, 1, 1, 1, 1, 1, 1, 1, 50, 1, 2), impl.MaxText + 26, false},
		{append(full, 1, 1, 1, 1, 1, 1, 49, 1, 1), impl.MaxText - 3, true},
	} {
		v, want := keptRows(row.counts...)
		if len(want) != row.length || !impl.ValOk(list, 0, v) {
			t.Error("made otherwise", len(want), row.length)
		}
		text, ok := impl.ShowVal(list, 0, v)
		if ok != row.ok || ok && text != want || !ok && text != "" {
			t.Error(row.length, "shown", len(text), ok)
		}
		w, ok := impl.ReadVal(list, 0, want)
		if ok != row.ok || ok && !sameVal(v, w) || !ok && !noVal(w) {
			t.Error(row.length, "read", ok)
		}
	}
	if v, ok := impl.ReadVal(ofText(0, 1000), 0, strings.Repeat("\"", 1<<20)); ok || !noVal(v) {
		t.Error("far too long")
	}
	long := strings.Repeat(`\"`, impl.MaxSize)
	if v, ok := impl.ReadVal(ofText(0, 1000), 0, `"`+long+`"`); !ok || string(v.B) != strings.Repeat(`"`, impl.MaxSize) {
		t.Error("a text of quotes", ok)
	}
	if v, ok := impl.ReadVal(ofText(0, 1000), 0, `"`+long+`a"`); ok || !noVal(v) {
		t.Error("a text of one letter too many")
	}
}

func TestAnyValueIsReadFromItsText(t *testing.T) {
	r := rand.New(rand.NewSource(7))
	for i := range 4000 {
		list := anySchema(r)
		v := anyVal(r, list, 0, 0)
		text, ok := impl.ShowVal(list, 0, v)
		if !ok {
			t.Fatal(i, "no text", list, v)
		}
		if w, ok := impl.ReadVal(list, 0, text); !ok || !sameVal(v, w) {
			t.Fatal(i, "not read back", list, v, text, w, ok)
		}
	}
}

// turned is a text with a mark changed, put in, or left out.
func turned(r *rand.Rand, text string, marks string) string {
	at := r.Intn(len(text) + 1)
	mark := string(marks[r.Intn(len(marks))])
	switch r.Intn(3) {
	case 0:
		return text[:at] + mark + text[at:]
	case 1:
		return text[:at] + text[min(at+1, len(text)):]
	}
	return text[:at] + mark + text[min(at+1, len(text)):]
}

func TestWhatIsReadFromTextIsRight(t *testing.T) {
	r := rand.New(rand.NewSource(8))
	read, other := 0, 0
	for i := range 12000 {
		list := anySchema(r)
		text, _ := impl.ShowVal(list, 0, anyVal(r, list, 0, 0))
		changed := turned(r, text, "0123456789abf-+ ,:?='\"\\{}[]yesno\n\x80")
		v, ok := impl.ReadVal(list, 0, changed)
		if !ok {
			if !noVal(v) {
				t.Fatal(i, "a value beside false", v)
			}
			continue
		}
		read++
		if changed != text {
			other++
		}
		if again, ok := impl.ShowVal(list, 0, v); !ok || again != changed || !impl.ValOk(list, 0, v) {
			t.Fatal(i, "read, but written otherwise", list, changed, again, v)
		}
	}
	if read < 500 || other < 300 {
		t.Error("too few were read", read, other)
	}
}

func TestShownSchemas(t *testing.T) {
	rows := []struct {
		name string
		list []impl.SType
		text string
	}{
		{"bool", []impl.SType{aBool}, "0 bool\n"},
		{"int", ofInt(-impl.MaxWhole, impl.MaxWhole), "0 int -1000000000000000 1000000000000000\n"},
		{"int of 0", ofInt(0, 0), "0 int 0 0\n"},
		{"bytes", ofBytes(1, impl.MaxSize), "0 bytes 1 1000\n"},
		{"text", ofText(0, 3), "0 text 0 3\n"},
		{"enum", ofEnum(1000, false), "0 enum 1000\n"},
		{"ext enum", ofEnum(0, true), "0 enum 0 ext\n"},
		{"seq", []impl.SType{seqOf()}, "0 seq\n"},
		{"ext seq", []impl.SType{withExt(seqOf())}, "0 seq ext\n"},
		{"list", []impl.SType{listOf(1, 2, 200), aBool}, "0 list 2 200 1\n1 bool\n"},
		{"choice", []impl.SType{choiceOf(1, 1), aBool}, "0 choice 1 1\n1 bool\n"},
		{"ext choice", []impl.SType{withExt(choiceOf(2, 1)), aBool, seqOf()}, "0 choice 2 1 ext\n1 bool\n2 seq\n"},
		{"open", []impl.SType{seqOf(1, 2), anInt, openOf(0, 3, 3), aBool}, "0 seq 1 2\n1 int -5 300\n2 open 0 3 3\n3 bool\n"},
		{"ext open", []impl.SType{seqOf(3, 1, 2), anInt, withOpt(withExt(openOf(1, 3))), aBool}, "0 seq 3 1 2\n1 int -5 300\n2 open 1 3 ext opt\n3 bool\n"},
		{"ext and opt", []impl.SType{withExt(seqOf(1, 2, 3, 4)), withOpt(anInt), withOpt(ofEnum(7, true)[0]), withOpt(listOf(5, 0, 1)), withOpt(withExt(choiceOf(5))), aBool}, "0 seq 1 2 3 4 ext\n1 int -5 300 opt\n2 enum 7 ext opt\n3 list 0 1 5 opt\n4 choice 5 ext opt\n5 bool\n"},
	}
	for _, row := range rows {
		if text, ok := impl.ShowSchema(row.list); !ok || text != row.text {
			t.Error(row.name, "got", text, ok)
		}
		if list, ok := impl.ReadSchema(row.text); !ok || !sameSchema(list, row.list) {
			t.Error(row.name, "read", list, ok)
		}
		for end := range row.text {
			list, ok := impl.ReadSchema(row.text[:end])
			if again, _ := impl.ShowSchema(list); ok != (again == row.text[:end] && end > 0) {
				t.Error(row.name, "a beginning", row.text[:end], list, ok)
			}
		}
	}
}

func TestSchemasWithoutText(t *testing.T) {
	for _, list := range [][]impl.SType{nil, {}, {{}}, {aBool, {}}, {anOpt}, {withExt(aBool)}, {{Kind: 10}}, {{Kind: -1}}, {{Kind: math.MaxInt64}}, ofInt(1, 0), {seqOf(0)}, {listOf(1, 0, 1)}, make([]impl.SType, impl.MaxTypes+1)} {
		if text, ok := impl.ShowSchema(list); ok || text != "" {
			t.Error(list, text, ok)
		}
	}
}

func TestSchemaTextsThatAreNone(t *testing.T) {
	texts := []string{
		"", "\n", " ", "0", "0\n", "0 \n", "bool\n", "0 bool", " 0 bool\n", "0 bool \n", "0  bool\n", "0\tbool\n", "0 bool\r\n", "0 bool\n\n", "\n0 bool\n", "0 bool\n0 bool\n", "0 bool\n2 bool\n", "1 bool\n", "00 bool\n", "+0 bool\n", "-0 bool\n", "0 Bool\n", "0 boolean\n", "0 bool 1\n", "0 bool ext\n", "0 bool opt\n", "0 bool\x00\n", "x bool\n", "bool 0\n",
		"0 int\n", "0 int 5\n", "0 int 0\n", "0 int 5 4\n", "0 int 05 6\n", "0 int +5 6\n", "0 int -0 6\n", "0 int 5 6 7\n", "0 int 5 6 ext\n", "0 int 5  6\n", "0 int 5 6.0\n", "0 int 0x5 6\n", "0 int 1_0 11\n", "0 int -1000000000000001 0\n", "0 int 0 1000000000000001\n", "0 int 0 99999999999999999999\n", "0 int a b\n",
		"0 bytes 0 1001\n", "0 bytes -1 0\n", "0 bytes 3\n", "0 text 0 1001\n", "0 text 3 2\n", "0 text 1 2 3\n", "0 text\n",
		"0 enum\n", "0 enum 1001\n", "0 enum 0 3\n", "0 enum -1\n", "0 enum 3 opt ext\n", "0 enum 3 ext ext\n", "0 enum ext 3\n", "0 enum 3 ext opt\n", "0 enum 3 Ext\n",
		"0 seq 1\n", "0 seq 0\n", "0 seq -1\n", "0 seq 01\n1 bool\n", "0 seq 1\n1 bool opt opt\n", "0 seq 1\n1 bool ext opt\n", "0 seq 1\n1 enum 3 opt ext\n", "0 seq 1 1 1 1 1 1 1 1 1 1 1 1 1\n1 bool\n", "0 seq ext 1\n1 bool\n",
		"0 list 0 1\n", "0 list 0 1 1 1\n1 bool\n", "0 list 1\n1 bool\n", "0 list 0 201 1\n1 bool\n", "0 list 0 1 1 ext\n1 bool\n", "0 list 0 1 1\n1 bool opt\n",
		"0 choice\n", "0 choice ext\n", "0 choice 1\n", "0 choice 1\n1 bool opt\n", "0 choice 2\n1 bool\n",
		"0 open 0 1\n1 bool\n", "0 seq 1 2\n1 int 0 1\n2 open 0\n", "0 seq 1 2\n1 int 0 1\n2 open 1 3\n3 bool\n", "0 seq 1 2\n1 int 0 1\n2 open 3\n3 bool\n", "0 seq 2 1\n1 int 0 1\n2 open 0 3\n3 bool\n", "0 seq 1 2\n1 int 0 1 opt\n2 open 0 3\n3 bool\n",
		"0 seq 1\n1 bool\n2", "0 seq 1\n1 bool\n2 bool", "0 seq 1\n 1 bool\n", "0 seq 1 \n1 bool\n", "1 seq 2\n2 bool\n", "1 bool\n0 seq 1\n",
	}
	for _, text := range texts {
		if list, ok := impl.ReadSchema(text); ok || len(list) != 0 {
			t.Error(text, "read as", list)
		}
	}
}

func TestSchemaTextsAsLongAsMayBe(t *testing.T) {
	text := ""
	for i := range impl.MaxTypes {
		text += strconv.Itoa(i) + " bool\n"
	}
	if list, ok := impl.ReadSchema(text); !ok || len(list) != impl.MaxTypes {
		t.Error("MaxTypes", len(list), ok)
	}
	if list, ok := impl.ReadSchema(text + "40 bool\n"); ok || len(list) != 0 {
		t.Error("MaxTypes + 1", len(list), ok)
	}
	for _, part := range []string{"0 bool\n", "\n", " ", "0 ", "bool ", "0 seq 1 "} {
		if list, ok := impl.ReadSchema(strings.Repeat(part, 1<<18)); ok || len(list) != 0 {
			t.Error("far too long", part)
		}
	}
}

func TestAnySchemaIsReadBack(t *testing.T) {
	r := rand.New(rand.NewSource(9))
	read := 0
	for i := range 4000 {
		list := anySchema(r)
		text, ok := impl.ShowSchema(list)
		if !ok {
			t.Fatal(i, "no text", list)
		}
		if again, ok := impl.ReadSchema(text); !ok || !sameSchema(list, again) {
			t.Fatal(i, "not read back", list, text, again, ok)
		}
		changed := turned(r, text, "0123456789- \nexopt")
		other, ok := impl.ReadSchema(changed)
		if !ok {
			if len(other) != 0 {
				t.Fatal(i, "a list beside false", other)
			}
			continue
		}
		read++
		if again, ok := impl.ShowSchema(other); !ok || again != changed || !impl.SchemaOk(other) {
			t.Fatal(i, "read, but written otherwise", changed, again)
		}
	}
	if read < 200 {
		t.Error("too few were read", read)
	}
}
