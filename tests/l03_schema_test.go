package tests

import (
	"bytes"
	"math"
	"math/rand"
	"testing"

	"loop.example/g00041/impl"
)

var (
	aBool = impl.SType{Kind: impl.SBool}
	anInt = impl.SType{Kind: impl.SInt, Lo: -5, Hi: 300}
	anOpt = impl.SType{Kind: impl.SBool, Opt: true}
)

func seqOf(kids ...int64) impl.SType { return impl.SType{Kind: impl.SSeq, Kids: kids} }

func listOf(kid int64, lo int64, hi int64) impl.SType {
	return impl.SType{Kind: impl.SList, Lo: lo, Hi: hi, Kids: []int64{kid}}
}

func choiceOf(kids ...int64) impl.SType { return impl.SType{Kind: impl.SChoice, Kids: kids} }

func openOf(field int64, kids ...int64) impl.SType {
	return impl.SType{Kind: impl.SOpen, Lo: field, Kids: kids}
}

func withExt(s impl.SType) impl.SType { s.Ext = true; return s }

func withOpt(s impl.SType) impl.SType { s.Opt = true; return s }

// times is the position k, n times.
func times(k int64, n int) []int64 {
	var list []int64
	for range n {
		list = append(list, k)
	}
	return list
}

func TestSchemaBounds(t *testing.T) {
	rows := []struct {
		kind, lo, hi int64
		ok           bool
	}{
		{impl.SInt, -impl.MaxWhole, impl.MaxWhole, true},
		{impl.SInt, -impl.MaxWhole - 1, 0, false},
		{impl.SInt, 0, impl.MaxWhole + 1, false},
		{impl.SInt, impl.MaxWhole, impl.MaxWhole, true},
		{impl.SInt, -impl.MaxWhole, -impl.MaxWhole, true},
		{impl.SInt, 1, 0, false},
		{impl.SInt, math.MinInt64, math.MaxInt64, false},
		{impl.SBytes, 0, impl.MaxSize, true},
		{impl.SBytes, impl.MaxSize, impl.MaxSize, true},
		{impl.SBytes, 0, 0, true},
		{impl.SBytes, -1, 0, false},
		{impl.SBytes, 0, impl.MaxSize + 1, false},
		{impl.SBytes, 3, 2, false},
		{impl.SText, 0, impl.MaxSize, true},
		{impl.SText, impl.MaxSize, impl.MaxSize, true},
		{impl.SText, -1, 0, false},
		{impl.SText, 0, impl.MaxSize + 1, false},
		{impl.SText, 3, 2, false},
		{impl.SEnum, 0, 0, true},
		{impl.SEnum, 0, 1000, true},
		{impl.SEnum, 0, 1001, false},
		{impl.SEnum, 0, -1, false},
		{impl.SEnum, 1, 1, false},
		{impl.SEnum, -1, 1, false},
		{impl.SBool, 0, 0, true},
		{impl.SBool, 1, 0, false},
		{impl.SBool, 0, 1, false},
		{impl.SSeq, 0, 0, true},
		{impl.SSeq, 1, 0, false},
		{impl.SSeq, 0, 1, false},
		{0, 0, 0, false},
		{10, 0, 0, false},
		{-1, 0, 0, false},
	}
	for _, row := range rows {
		s := impl.SType{Kind: row.kind, Lo: row.lo, Hi: row.hi}
		if got := impl.SchemaOk([]impl.SType{s}); got != row.ok {
			t.Error(s, got)
		}
	}
	lists := []struct {
		lo, hi int64
		ok     bool
	}{{0, 0, true}, {0, impl.MaxCount, true}, {impl.MaxCount, impl.MaxCount, true}, {0, impl.MaxCount + 1, false}, {-1, 0, false}, {2, 1, false}}
	for _, row := range lists {
		if got := impl.SchemaOk([]impl.SType{listOf(1, row.lo, row.hi), aBool}); got != row.ok {
			t.Error("list", row, got)
		}
	}
	for _, lo := range []int64{-1, 1} {
		if s := choiceOf(1); impl.SchemaOk([]impl.SType{{Kind: s.Kind, Lo: lo, Kids: s.Kids}, aBool}) || impl.SchemaOk([]impl.SType{{Kind: s.Kind, Hi: lo, Kids: s.Kids}, aBool}) {
			t.Error("a choice with bounds", lo)
		}
	}
	if impl.SchemaOk([]impl.SType{seqOf(1, 2), anInt, {Kind: impl.SOpen, Hi: 1, Kids: []int64{3}}, aBool}) {
		t.Error("an open with Hi")
	}
}

func TestSchemaExtAndKids(t *testing.T) {
	rows := []struct {
		kind  int64
		ext   bool
		least int
		most  int
	}{
		{impl.SBool, false, 0, 0},
		{impl.SInt, false, 0, 0},
		{impl.SBytes, false, 0, 0},
		{impl.SText, false, 0, 0},
		{impl.SEnum, true, 0, 0},
		{impl.SSeq, true, 0, impl.MaxFields},
		{impl.SList, false, 1, 1},
		{impl.SChoice, true, 1, impl.MaxFields},
	}
	for _, row := range rows {
		for count := range impl.MaxFields + 3 {
			s := impl.SType{Kind: row.kind, Kids: times(1, count)}
			want := count >= row.least && count <= row.most
			if got := impl.SchemaOk([]impl.SType{s, aBool}); got != want {
				t.Error(s, "got", got)
			}
			s.Ext = true
			if got := impl.SchemaOk([]impl.SType{s, aBool}); got != (want && row.ext) {
				t.Error(s, "got", got)
			}
		}
	}
	for count := range impl.MaxFields + 3 {
		s := openOf(0, times(3, count)...)
		want := count >= 1 && count <= impl.MaxFields
		if got := impl.SchemaOk([]impl.SType{seqOf(1, 2), anInt, s, aBool}); got != want {
			t.Error("open", count, got)
		}
		if got := impl.SchemaOk([]impl.SType{seqOf(1, 2), anInt, withExt(s), aBool}); got != want {
			t.Error("open with ext", count, got)
		}
	}
}

func TestSchemaCounts(t *testing.T) {
	for _, row := range []struct {
		count int
		ok    bool
	}{{0, false}, {1, true}, {impl.MaxTypes, true}, {impl.MaxTypes + 1, false}, {10000, false}} {
		list := make([]impl.SType, row.count)
		for i := range list {
			list[i] = aBool
		}
		if got := impl.SchemaOk(list); got != row.ok {
			t.Error(row.count, got)
		}
	}
	if impl.SchemaOk([]impl.SType{aBool, {}}) || impl.SchemaOk([]impl.SType{{}, aBool}) {
		t.Error("a type without a kind")
	}
}

func TestSchemaKidPositions(t *testing.T) {
	for _, kid := range []int64{-1, 0, 1, 3, math.MaxInt64, math.MinInt64} {
		for _, s := range []impl.SType{seqOf(2, kid), choiceOf(2, kid), listOf(kid, 0, 1)} {
			if impl.SchemaOk([]impl.SType{aBool, s, aBool}) {
				t.Error("a kid that is not behind its type", s)
			}
		}
	}
	if !impl.SchemaOk([]impl.SType{aBool, seqOf(2, 2), aBool}) {
		t.Error("a kid twice")
	}
	if impl.SchemaOk([]impl.SType{seqOf(1, 2), anInt, openOf(0, 2)}) || impl.SchemaOk([]impl.SType{seqOf(1, 2), anInt, openOf(0, 3)}) {
		t.Error("a kid of an open that is not behind it")
	}
}

// chain is of count types, each the Kid of the one ahead, made by around.
func chain(count int, around func(kid int64) impl.SType) []impl.SType {
	var list []impl.SType
	for i := range count - 1 {
		list = append(list, around(int64(i+1)))
	}
	return append(list, aBool)
}

func TestSchemaLevels(t *testing.T) {
	arounds := []func(int64) impl.SType{
		func(kid int64) impl.SType { return seqOf(kid) },
		func(kid int64) impl.SType { return listOf(kid, 0, 1) },
		func(kid int64) impl.SType { return choiceOf(kid) },
	}
	for i, around := range arounds {
		if !impl.SchemaOk(chain(impl.MaxLevels, around)) {
			t.Error(i, "as deep as may be")
		}
		if impl.SchemaOk(chain(impl.MaxLevels+1, around)) {
			t.Error(i, "one deeper")
		}
	}
	deep := chain(impl.MaxLevels, arounds[0])
	if !impl.SchemaOk(append([]impl.SType{aBool}, shifted(deep)...)) {
		t.Error("deep, but not the first")
	}
	if impl.SchemaOk(append([]impl.SType{seqOf(1)}, shifted(deep)...)) {
		t.Error("one around it")
	}
	wide := chain(impl.MaxLevels+1, arounds[0])
	wide[0].Kids = []int64{impl.MaxLevels, 1}
	if impl.SchemaOk(wide) {
		t.Error("one Kid deep, the other not")
	}
	wide[0].Kids = []int64{1, impl.MaxLevels}
	if impl.SchemaOk(wide) {
		t.Error("the first Kid deep, the other not")
	}
	wide[0].Kids = []int64{impl.MaxLevels, 2}
	if !impl.SchemaOk(wide) {
		t.Error("a Kid of a Kid is a Kid, too")
	}
	open := append([]impl.SType{seqOf(1, 2), anInt, openOf(0, 3)}, shifted(shifted(shifted(chain(impl.MaxLevels-2, arounds[0]))))...)
	if !impl.SchemaOk(open) {
		t.Error("an open as deep as may be")
	}
	open = append([]impl.SType{seqOf(1, 2), anInt, openOf(0, 3)}, shifted(shifted(shifted(chain(impl.MaxLevels-1, arounds[0]))))...)
	if impl.SchemaOk(open) {
		t.Error("an open one deeper")
	}
}

// shifted is a schema to stand one position further behind.
func shifted(list []impl.SType) []impl.SType {
	list = copySchema(list)
	for _, s := range list {
		for k := range s.Kids {
			s.Kids[k]++
		}
	}
	return list
}

func TestSchemaOpt(t *testing.T) {
	rows := []struct {
		name string
		list []impl.SType
		ok   bool
	}{
		{"a field", []impl.SType{seqOf(1), anOpt}, true},
		{"a field twice", []impl.SType{seqOf(1, 1), anOpt}, true},
		{"a field of two", []impl.SType{seqOf(1, 2), seqOf(2), anOpt}, true},
		{"nothing's kid", []impl.SType{anOpt}, false},
		{"nothing's kid, behind", []impl.SType{seqOf(1), aBool, anOpt}, false},
		{"the first one", []impl.SType{withOpt(seqOf(1)), aBool}, false},
		{"a list's kid", []impl.SType{listOf(1, 0, 1), anOpt}, false},
		{"a choice's kid", []impl.SType{choiceOf(1), anOpt}, false},
		{"an open's kid", []impl.SType{seqOf(1, 2), anInt, openOf(0, 3), anOpt}, false},
		{"a field and a list's kid", []impl.SType{seqOf(1, 2), listOf(2, 0, 1), anOpt}, false},
		{"a field and a choice's kid", []impl.SType{seqOf(1, 2), choiceOf(2), anOpt}, false},
		{"a field and an open's kid", []impl.SType{seqOf(1, 2, 3), anInt, openOf(0, 3), anOpt}, false},
		{"a seq in a seq", []impl.SType{seqOf(1), withOpt(seqOf(2)), aBool}, true},
		{"a list in a seq", []impl.SType{seqOf(1), withOpt(listOf(2, 0, 1)), aBool}, true},
		{"a choice in a seq", []impl.SType{seqOf(1), withOpt(choiceOf(2)), aBool}, true},
		{"an open in a seq", []impl.SType{seqOf(1, 2), anInt, withOpt(openOf(0, 3)), aBool}, true},
	}
	for _, row := range rows {
		if got := impl.SchemaOk(row.list); got != row.ok {
			t.Error(row.name, got)
		}
	}
}

func TestSchemaOpen(t *testing.T) {
	rows := []struct {
		name string
		list []impl.SType
		ok   bool
	}{
		{"the field ahead", []impl.SType{seqOf(1, 2), anInt, openOf(0, 3), aBool}, true},
		{"a field further ahead", []impl.SType{seqOf(3, 1, 2), anInt, openOf(1, 3), aBool}, true},
		{"another field between", []impl.SType{seqOf(1, 3, 2), anInt, openOf(0, 3), aBool}, true},
		{"two of one field", []impl.SType{seqOf(1, 2, 3), anInt, openOf(0, 4), openOf(0, 4), aBool}, true},
		{"the number of the field itself", []impl.SType{seqOf(1, 2), anInt, openOf(1, 3), aBool}, false},
		{"a field behind", []impl.SType{seqOf(2, 1), anInt, openOf(1, 3), aBool}, false},
		{"a field behind, another ahead", []impl.SType{seqOf(1, 2, 1), anInt, openOf(2, 3), aBool}, false},
		{"no field", []impl.SType{seqOf(1, 2), anInt, openOf(2, 3), aBool}, false},
		{"below 0", []impl.SType{seqOf(1, 2), anInt, openOf(-1, 3), aBool}, false},
		{"far below 0", []impl.SType{seqOf(1, 2), anInt, openOf(math.MinInt64, 3), aBool}, false},
		{"far above", []impl.SType{seqOf(1, 2), anInt, openOf(math.MaxInt64, 3), aBool}, false},
		{"a field with Opt", []impl.SType{seqOf(1, 2), withOpt(anInt), openOf(0, 3), aBool}, false},
		{"an enum", []impl.SType{seqOf(1, 2), {Kind: impl.SEnum, Hi: 3}, openOf(0, 3), aBool}, false},
		{"a bool", []impl.SType{seqOf(3, 2), anInt, openOf(0, 3), aBool}, false},
		{"twice", []impl.SType{seqOf(1, 2, 2), anInt, openOf(0, 3), aBool}, false},
		{"of two", []impl.SType{seqOf(1, 3), seqOf(2, 3), anInt, openOf(0, 4), aBool}, false},
		{"of another", []impl.SType{seqOf(1, 2), seqOf(3), openOf(0, 3), anInt}, false},
		{"of none", []impl.SType{seqOf(1), anInt, openOf(0, 3), aBool}, false},
		{"a list's", []impl.SType{seqOf(1, 2), anInt, listOf(3, 0, 1), openOf(0, 4), aBool}, false},
		{"a choice's", []impl.SType{seqOf(1, 2), anInt, choiceOf(3), openOf(0, 4), aBool}, false},
		{"an open's", []impl.SType{seqOf(1, 2), anInt, openOf(0, 3), openOf(0, 4), aBool}, false},
		{"a seq's and a list's", []impl.SType{seqOf(1, 3, 2), anInt, listOf(3, 0, 1), openOf(0, 4), aBool}, false},
		{"a seq's and a choice's", []impl.SType{seqOf(1, 3, 2), anInt, choiceOf(3), openOf(0, 4), aBool}, false},
		{"around a choice", []impl.SType{seqOf(1, 2), anInt, openOf(0, 3), choiceOf(4), aBool}, true},
		{"around another seq's", []impl.SType{seqOf(1, 2), anInt, openOf(0, 3), seqOf(4, 5), anInt, openOf(0, 6), aBool}, true},
	}
	for _, row := range rows {
		if got := impl.SchemaOk(row.list); got != row.ok {
			t.Error(row.name, got)
		}
	}
}

// valCase is a type at 0 and one of its values, or something that is none.
type valCase struct {
	name string
	list []impl.SType
	v    impl.Val
	ok   bool
}

func checkVals(t *testing.T, rows []valCase) {
	t.Helper()
	for _, row := range rows {
		if !impl.SchemaOk(row.list) {
			t.Error(row.name, "is no schema")
			continue
		}
		b, ok := impl.EncVal(row.list, 0, row.v)
		if ok != row.ok || impl.ValOk(row.list, 0, row.v) != row.ok || !ok && len(b) != 0 {
			t.Error(row.name, "got", b, ok, impl.ValOk(row.list, 0, row.v))
			continue
		}
		checkForms(t, row)
		if !ok {
			continue
		}
		for _, lax := range []bool{false, true} {
			if v, code := impl.DecVal(row.list, 0, b, lax); code != 0 || !sameVal(v, row.v) {
				t.Error(row.name, "read back", v, code)
			}
		}
	}
}

// checkForms holds a value to its bits and its text, where it has them: either may be too
// long. What is no value has neither.
func checkForms(t *testing.T, row valCase) {
	t.Helper()
	b, ok := impl.PackVal(row.list, 0, row.v)
	if ok && !row.ok || !ok && len(b) != 0 {
		t.Error(row.name, "has bits", b, ok)
	}
	if ok {
		if v, code := impl.UnpackVal(row.list, 0, b); code != 0 || !sameVal(v, row.v) {
			t.Error(row.name, "read from its bits", v, code)
		}
	}
	text, ok := impl.ShowVal(row.list, 0, row.v)
	if ok && !row.ok || !ok && text != "" {
		t.Error(row.name, "has a text", text, ok)
	}
	if ok {
		if v, ok := impl.ReadVal(row.list, 0, text); !ok || !sameVal(v, row.v) {
			t.Error(row.name, "read from its text", v, ok)
		}
	}
}

func TestSimpleValues(t *testing.T) {
	num := func(n int64) impl.Val { return impl.Val{N: n} }
	text := func(s string) impl.Val { return impl.Val{B: []byte(s)} }
	bools := []impl.SType{aBool}
	ints := []impl.SType{anInt}
	whole := []impl.SType{{Kind: impl.SInt, Lo: -impl.MaxWhole, Hi: impl.MaxWhole}}
	sized := []impl.SType{{Kind: impl.SBytes, Lo: 1, Hi: 3}}
	texts := []impl.SType{{Kind: impl.SText, Lo: 1, Hi: 3}}
	long := []impl.SType{{Kind: impl.SBytes, Lo: 0, Hi: impl.MaxSize}}
	enum := []impl.SType{{Kind: impl.SEnum, Hi: 3}}
	more := []impl.SType{{Kind: impl.SEnum, Hi: 3, Ext: true}}
	checkVals(t, []valCase{
		{"no", bools, num(0), true},
		{"yes", bools, num(1), true},
		{"a bool 2", bools, num(2), false},
		{"a bool -1", bools, num(-1), false},
		{"the least int", ints, num(-5), true},
		{"one less", ints, num(-6), false},
		{"the most", ints, num(300), true},
		{"one more", ints, num(301), false},
		{"the least number", ints, num(math.MinInt64), false},
		{"the greatest number", ints, num(math.MaxInt64), false},
		{"MaxWhole", whole, num(impl.MaxWhole), true},
		{"-MaxWhole", whole, num(-impl.MaxWhole), true},
		{"above MaxWhole", whole, num(impl.MaxWhole + 1), false},
		{"too few bytes", sized, text(""), false},
		{"the least bytes", sized, text("\x00"), true},
		{"the most bytes", sized, text("\xff\x80\x00"), true},
		{"too many bytes", sized, text("abcd"), false},
		{"MaxSize bytes", long, impl.Val{B: make([]byte, impl.MaxSize)}, true},
		{"MaxSize + 1 bytes", long, impl.Val{B: make([]byte, impl.MaxSize+1)}, false},
		{"far too many bytes", long, impl.Val{B: make([]byte, 2*impl.MaxBytes)}, false},
		{"too short a text", texts, text(""), false},
		{"the shortest text", texts, text(" "), true},
		{"the longest", texts, text("~~~"), true},
		{"too long a text", texts, text("abcd"), false},
		{"a byte 31", texts, text("a\x1f"), false},
		{"a byte 127", texts, text("a\x7f"), false},
		{"a byte 255", texts, text("\xffa"), false},
		{"enum 0", enum, num(0), true},
		{"enum 3", enum, num(3), true},
		{"enum 4", enum, num(4), false},
		{"enum -1", enum, num(-1), false},
		{"ext enum 4", more, num(4), true},
		{"ext enum MaxEnum", more, num(impl.MaxEnum), true},
		{"ext enum MaxEnum + 1", more, num(impl.MaxEnum + 1), false},
		{"ext enum -1", more, num(-1), false},
	})
}

func TestValuesWithWhatIsNotNamed(t *testing.T) {
	kept := []byte{159, 40, 0}
	rows := []struct {
		name                string
		list                []impl.SType
		v                   impl.Val
		number, bytes, more bool
	}{
		{"bool", []impl.SType{aBool}, impl.Val{}, true, false, false},
		{"int", []impl.SType{anInt}, impl.Val{N: 1}, true, false, false},
		{"enum", []impl.SType{{Kind: impl.SEnum, Hi: 3}}, impl.Val{N: 1}, true, false, false},
		{"bytes", []impl.SType{{Kind: impl.SBytes, Hi: 3}}, impl.Val{B: []byte{40}}, false, true, false},
		{"text", []impl.SType{{Kind: impl.SText, Hi: 3}}, impl.Val{B: []byte{40}}, false, true, false},
		{"seq", []impl.SType{seqOf(1), aBool}, one(impl.Val{}), false, false, false},
		{"ext seq", []impl.SType{withExt(seqOf(1)), aBool}, one(impl.Val{}), false, false, true},
		{"list", []impl.SType{listOf(1, 1, 1), aBool}, one(impl.Val{}), false, false, false},
		{"choice", []impl.SType{choiceOf(1, 1), aBool}, pick(0, impl.Val{}), true, false, false},
		{"ext choice", []impl.SType{withExt(choiceOf(1, 1)), aBool}, pick(0, impl.Val{}), true, false, false},
		{"kept choice", []impl.SType{withExt(choiceOf(1)), aBool}, impl.Val{N: -1, B: kept}, false, false, false},
	}
	for _, row := range rows {
		if !impl.ValOk(row.list, 0, row.v) {
			t.Error(row.name, "is none")
		}
		v := row.v
		v.Out = true
		if impl.ValOk(row.list, 0, v) {
			t.Error(row.name, "out")
		}
		v = row.v
		if v.N++; impl.ValOk(row.list, 0, v) != row.number {
			t.Error(row.name, "with another N")
		}
		v = row.v
		if v.B = []byte{41}; impl.ValOk(row.list, 0, v) != row.bytes {
			t.Error(row.name, "with another B")
		}
		v = row.v
		if v.Kids = append(v.Kids, impl.Val{}); impl.ValOk(row.list, 0, v) {
			t.Error(row.name, "with one more Kid")
		}
		v = row.v
		if v.More = [][]byte{kept}; impl.ValOk(row.list, 0, v) != row.more {
			t.Error(row.name, "with More")
		}
		v = row.v
		if v.Kids = nil; impl.ValOk(row.list, 0, v) && len(row.v.Kids) > 0 {
			t.Error(row.name, "without its Kid")
		}
	}
}

func TestOpenValuesWithWhatIsNotNamed(t *testing.T) {
	list := []impl.SType{seqOf(1, 2), anInt, withExt(openOf(0, 3)), aBool}
	kept := impl.Val{B: []byte{4, 0}}
	known := one(impl.Val{N: 1})
	for _, row := range []struct {
		number int64
		v      impl.Val
	}{{0, known}, {1, kept}, {-1, kept}, {300, kept}} {
		field := impl.Val{N: row.number}
		if !impl.ValOk(list, 0, kidsOf(field, row.v)) {
			t.Error("a value", row)
		}
		spoiled := []impl.Val{row.v, row.v, row.v, row.v, row.v}
		spoiled[0].Out = true
		spoiled[1].N = 1
		spoiled[2].B = []byte{4, 1}
		spoiled[3].Kids = append([]impl.Val{{}}, row.v.Kids...)
		spoiled[4].More = [][]byte{{130, 0}}
		for i, v := range spoiled {
			if impl.ValOk(list, 0, kidsOf(field, v)) {
				t.Error("spoiled", row, i)
			}
		}
	}
	if impl.ValOk(list, 0, kidsOf(impl.Val{}, kept)) || impl.ValOk(list, 0, kidsOf(impl.Val{N: 1}, known)) {
		t.Error("what belongs to another number")
	}
	list[2].Ext = false
	if impl.ValOk(list, 0, kidsOf(impl.Val{N: 1}, kept)) || impl.ValOk(list, 0, kidsOf(impl.Val{N: -1}, kept)) || !impl.ValOk(list, 0, kidsOf(impl.Val{}, known)) {
		t.Error("without ext")
	}
}

func TestOutFields(t *testing.T) {
	list := []impl.SType{seqOf(1, 2, 3), anInt, anOpt, withOpt(seqOf(4)), aBool}
	five, in := impl.Val{N: 5}, one(impl.Val{N: 1})
	checkVals(t, []valCase{
		{"all there", list, kidsOf(five, impl.Val{}, in), true},
		{"one out", list, kidsOf(five, out, in), true},
		{"the other out", list, kidsOf(five, impl.Val{}, out), true},
		{"both out", list, kidsOf(five, out, out), true},
		{"out that may not be", list, kidsOf(out, out, out), false},
		{"out with N", list, kidsOf(five, impl.Val{Out: true, N: 1}, in), false},
		{"out with B", list, kidsOf(five, impl.Val{Out: true, B: []byte{1}}, in), false},
		{"out with a Kid", list, kidsOf(five, out, impl.Val{Out: true, Kids: in.Kids}), false},
		{"out with More", list, kidsOf(five, impl.Val{Out: true, More: [][]byte{{130, 0}}}, in), false},
		{"too few", list, kidsOf(five, out), false},
		{"too many", list, kidsOf(five, out, out, out), false},
		{"none", list, impl.Val{}, false},
		{"no fields", []impl.SType{seqOf()}, impl.Val{}, true},
		{"no fields, but a Kid", []impl.SType{seqOf()}, kidsOf(out), false},
		{"out in a list", []impl.SType{listOf(1, 0, 2), aBool}, kidsOf(out), false},
		{"out in a choice", []impl.SType{choiceOf(1), aBool}, pick(0, out), false},
	})
	if impl.ValOk(list, 0, out) {
		t.Error("the whole out")
	}
}

func TestMore(t *testing.T) {
	list := []impl.SType{withExt(seqOf(1, 2)), aBool, anOpt}
	with := func(more ...[]byte) impl.Val {
		return impl.Val{Kids: []impl.Val{{}, out}, More: more}
	}
	a, b := []byte{130, 0}, []byte{163, 2, 48, 0}
	checkVals(t, []valCase{
		{"none", list, with(), true},
		{"one", list, with(a), true},
		{"two alike", list, with(a, a), true},
		{"four, in any order", list, with(b, a, b, a), true},
		{"five", list, with(a, a, a, a, a), false},
		{"a field's tag", list, with([]byte{129, 0}), false},
		{"behind a right one", list, with(a, []byte{128, 0}), false},
		{"class 0", list, with([]byte{4, 0}), false},
		{"class 1", list, with([]byte{66, 0}), false},
		{"class 3", list, with([]byte{194, 0}), false},
		{"nothing", list, with(nil), false},
		{"too short", list, with([]byte{130}), false},
		{"something behind", list, with([]byte{130, 0, 0}), false},
		{"a lax length", list, with([]byte{130, 129, 0}), false},
		{"a lax tag", list, with([]byte{159, 2, 0}), false},
		{"an open item", list, with([]byte{163, 128, 0, 0}), false},
		{"the greatest tag", list, with([]byte{159, 255, 255, 255, 127, 0}), true},
		{"no fields", []impl.SType{withExt(seqOf())}, impl.Val{More: [][]byte{{128, 0}}}, true},
		{"without ext", []impl.SType{seqOf()}, impl.Val{More: [][]byte{{128, 0}}}, false},
	})
}

func TestListsOfValues(t *testing.T) {
	list := []impl.SType{listOf(1, 1, 3), aBool}
	checkVals(t, []valCase{
		{"too few", list, kidsOf(), false},
		{"the fewest", list, kidsOf(impl.Val{N: 1}), true},
		{"the most", list, kidsOf(impl.Val{}, impl.Val{N: 1}, impl.Val{}), true},
		{"too many", list, kidsOf(impl.Val{}, impl.Val{}, impl.Val{}, impl.Val{}), false},
		{"a wrong one", list, kidsOf(impl.Val{}, impl.Val{N: 2}), false},
		{"MaxCount", []impl.SType{listOf(1, 0, impl.MaxCount), aBool}, kidsOf(make([]impl.Val, impl.MaxCount)...), true},
		{"MaxCount + 1", []impl.SType{listOf(1, 0, impl.MaxCount), aBool}, kidsOf(make([]impl.Val, impl.MaxCount+1)...), false},
		{"none at all", []impl.SType{listOf(1, 0, 0), aBool}, kidsOf(), true},
	})
}

func TestChoiceNumbers(t *testing.T) {
	plain := []impl.SType{choiceOf(1, 2), aBool, anInt}
	ext := []impl.SType{withExt(choiceOf(1, 2)), aBool, anInt}
	kept := func(b ...byte) impl.Val { return impl.Val{N: -1, B: b} }
	checkVals(t, []valCase{
		{"the first", plain, pick(0, impl.Val{N: 1}), true},
		{"the last", plain, pick(1, impl.Val{N: 300}), true},
		{"behind it", plain, pick(2, impl.Val{}), false},
		{"-1", plain, pick(-1, impl.Val{}), false},
		{"far", plain, pick(math.MaxInt64, impl.Val{}), false},
		{"a value of the other", plain, pick(0, impl.Val{N: 300}), false},
		{"none", plain, impl.Val{}, false},
		{"kept, without ext", plain, kept(130, 0), false},
		{"kept", ext, kept(130, 0), true},
		{"kept, Cons", ext, kept(162, 2, 4, 0), true},
		{"kept with a Kid's tag", ext, kept(129, 0), false},
		{"kept of class 0", ext, kept(4, 0), false},
		{"kept of class 3", ext, kept(194, 0), false},
		{"kept, nothing", ext, kept(), false},
		{"kept, lax", ext, kept(130, 129, 0), false},
		{"kept and a Kid", ext, impl.Val{N: -1, B: []byte{130, 0}, Kids: []impl.Val{{}}}, false},
		{"-2", ext, impl.Val{N: -2, B: []byte{130, 0}}, false},
		{"behind the last, with ext", ext, pick(2, impl.Val{}), false},
	})
}

func TestEncodedForms(t *testing.T) {
	num := func(n int64) impl.Val { return impl.Val{N: n} }
	whole := []impl.SType{{Kind: impl.SInt, Lo: -impl.MaxWhole, Hi: impl.MaxWhole}}
	inner := []impl.SType{seqOf(1, 2), anInt, withExt(openOf(0, 3, 7, 4)), withExt(choiceOf(7, 5)), seqOf(7), choiceOf(7, 6), seqOf(), aBool}
	rows := []struct {
		name string
		list []impl.SType
		v    impl.Val
		want []byte
	}{
		{"no", []impl.SType{aBool}, num(0), []byte{1, 1, 0}},
		{"yes", []impl.SType{aBool}, num(1), []byte{1, 1, 255}},
		{"0", whole, num(0), []byte{2, 1, 0}},
		{"127", whole, num(127), []byte{2, 1, 127}},
		{"128", whole, num(128), []byte{2, 2, 0, 128}},
		{"255", whole, num(255), []byte{2, 2, 0, 255}},
		{"256", whole, num(256), []byte{2, 2, 1, 0}},
		{"32767", whole, num(32767), []byte{2, 2, 127, 255}},
		{"32768", whole, num(32768), []byte{2, 3, 0, 128, 0}},
		{"-1", whole, num(-1), []byte{2, 1, 255}},
		{"-128", whole, num(-128), []byte{2, 1, 128}},
		{"-129", whole, num(-129), []byte{2, 2, 255, 127}},
		{"-256", whole, num(-256), []byte{2, 2, 255, 0}},
		{"-32768", whole, num(-32768), []byte{2, 2, 128, 0}},
		{"MaxWhole", whole, num(impl.MaxWhole), []byte{2, 7, 3, 141, 126, 164, 198, 128, 0}},
		{"-MaxWhole", whole, num(-impl.MaxWhole), []byte{2, 7, 252, 114, 129, 91, 57, 128, 0}},
		{"bytes", []impl.SType{{Kind: impl.SBytes, Hi: 3}}, impl.Val{B: []byte{0, 255}}, []byte{4, 2, 0, 255}},
		{"text", []impl.SType{{Kind: impl.SText, Hi: 3}}, impl.Val{B: []byte("a~")}, []byte{12, 2, 97, 126}},
		{"enum", []impl.SType{{Kind: impl.SEnum, Hi: 300}}, num(128), []byte{10, 2, 0, 128}},
		{"seq", []impl.SType{seqOf(1, 2), aBool, anOpt}, kidsOf(num(1), num(0)), []byte{48, 6, 128, 1, 255, 129, 1, 0}},
		{"out", []impl.SType{seqOf(2, 1), aBool, anOpt}, kidsOf(out, num(1)), []byte{48, 3, 129, 1, 255}},
		{"More", []impl.SType{withExt(seqOf(1)), aBool}, impl.Val{Kids: []impl.Val{num(1)}, More: [][]byte{{131, 0}, {129, 1, 7}}}, []byte{48, 8, 128, 1, 255, 131, 0, 129, 1, 7}},
		{"a seq in a seq", []impl.SType{seqOf(1), seqOf(2), aBool}, one(one(num(1))), []byte{48, 5, 160, 3, 128, 1, 255}},
		{"a list in a seq", []impl.SType{seqOf(1), listOf(2, 0, 2), aBool}, one(one(num(1))), []byte{48, 5, 160, 3, 1, 1, 255}},
		{"a choice in a list", []impl.SType{listOf(1, 0, 2), choiceOf(2, 2), aBool}, kidsOf(pick(1, num(1)), pick(0, num(0))), []byte{49, 6, 129, 1, 255, 128, 1, 0}},
		{"a choice in a choice", []impl.SType{choiceOf(2, 1), choiceOf(2, 2, 2), aBool}, pick(1, pick(2, num(1))), []byte{161, 3, 130, 1, 255}},
		{"a seq in a choice", []impl.SType{choiceOf(1), seqOf(2), aBool}, pick(0, one(num(1))), []byte{160, 3, 128, 1, 255}},
		{"kept in a choice in a choice", []impl.SType{choiceOf(1), withExt(choiceOf(2)), aBool}, pick(0, impl.Val{N: -1, B: []byte{129, 0}}), []byte{160, 2, 129, 0}},
		{"kept in a choice in a field", []impl.SType{seqOf(1), withExt(choiceOf(2)), aBool}, one(impl.Val{N: -1, B: []byte{129, 0}}), []byte{48, 4, 160, 2, 129, 0}},
		{"an open's choice", inner, kidsOf(num(0), one(pick(0, num(1)))), []byte{48, 8, 128, 1, 0, 161, 3, 128, 1, 255}},
		{"an open's choice's choice", inner, kidsOf(num(0), one(pick(1, pick(1, impl.Val{})))), []byte{48, 9, 128, 1, 0, 161, 4, 161, 2, 161, 0}},
		{"an open's choice's kept", inner, kidsOf(num(0), one(impl.Val{N: -1, B: []byte{130, 0}})), []byte{48, 7, 128, 1, 0, 161, 2, 130, 0}},
		{"an open's bool", inner, kidsOf(num(1), one(num(1))), []byte{48, 8, 128, 1, 1, 161, 3, 1, 1, 255}},
		{"an open's seq", inner, kidsOf(num(2), one(one(num(1)))), []byte{48, 10, 128, 1, 2, 161, 5, 48, 3, 128, 1, 255}},
		{"an open's kept", inner, kidsOf(num(3), impl.Val{B: []byte{4, 1, 9}}), []byte{48, 8, 128, 1, 3, 161, 3, 4, 1, 9}},
		{"an open's kept, below 0", inner, kidsOf(num(-1), impl.Val{B: []byte{128, 0}}), []byte{48, 7, 128, 1, 255, 161, 2, 128, 0}},
	}
	for _, row := range rows {
		if got, ok := impl.EncVal(row.list, 0, row.v); !ok || !bytes.Equal(got, row.want) {
			t.Error(row.name, "got", got, ok, "want", row.want)
		}
		if got, code := impl.DecVal(row.list, 0, row.want, false); code != 0 || !sameVal(got, row.v) {
			t.Error(row.name, "read", got, code)
		}
	}
}

func TestTypesThatAreNone(t *testing.T) {
	list := []impl.SType{seqOf(1, 2, 3), anInt, openOf(0, 3), anOpt}
	list[3].Opt = false
	list = append(list, withOpt(aBool), seqOf())
	list[0].Kids = []int64{1, 2, 4}
	if !impl.SchemaOk(list) {
		t.Fatal("no schema")
	}
	rows := []struct {
		t  int64
		ok bool
	}{{-1, false}, {1, true}, {2, false}, {3, true}, {4, false}, {5, false}, {6, false}, {math.MinInt64, false}, {math.MaxInt64, false}}
	for _, row := range rows {
		v := impl.Val{N: 1}
		b, ok := impl.EncVal(list, row.t, v)
		if ok != row.ok || impl.ValOk(list, row.t, v) != row.ok || !ok && len(b) != 0 {
			t.Error(row, b, ok)
		}
		if row.t == 5 {
			continue
		}
		if v, code := impl.DecVal(list, row.t, nil, false); (code == impl.DSchema) == row.ok || !noVal(v) {
			t.Error("read", row, v, code)
		}
	}
	if !impl.ValOk(list, 5, impl.Val{}) {
		t.Error("the last type")
	}
	for _, bad := range [][]impl.SType{nil, {aBool, {}}, {anOpt}} {
		v, code := impl.DecVal(bad, 0, make([]byte, impl.MaxBytes+1), true)
		if code != impl.DSchema || !noVal(v) || impl.ValOk(bad, 0, impl.Val{}) {
			t.Error("no schema", bad, v, code)
		}
	}
}

// wrapped is bytes of an item with count items of Class 2 around one of Class 2 and no body.
func wrapped(count int, tag int64) []byte {
	x := impl.Item{Class: 2, Tag: tag}
	for range count {
		x = impl.Item{Class: 2, Tag: tag, Cons: true, Kids: []impl.Item{x}}
	}
	b, _ := impl.ItemBytes(x)
	return b
}

func TestValuesAsDeepAsMayBe(t *testing.T) {
	seq := []impl.SType{withExt(seqOf())}
	twice := []impl.SType{seqOf(1), withExt(seqOf())}
	choice := []impl.SType{withExt(choiceOf(1)), aBool}
	field := []impl.SType{seqOf(1), withExt(choiceOf(2)), aBool}
	open := []impl.SType{seqOf(1, 2), anInt, withExt(openOf(0, 3)), aBool}
	more := func(deep int) impl.Val { return impl.Val{More: [][]byte{wrapped(deep-1, 9)}} }
	kept := func(deep int) impl.Val { return impl.Val{N: -1, B: wrapped(deep-1, 9)} }
	checkVals(t, []valCase{
		{"More", seq, more(impl.MaxDeep - 1), true},
		{"More, one deeper", seq, more(impl.MaxDeep), false},
		{"More in a field", twice, one(more(impl.MaxDeep - 2)), true},
		{"More in a field, one deeper", twice, one(more(impl.MaxDeep - 1)), false},
		{"a choice", choice, kept(impl.MaxDeep), true},
		{"a choice in a field", field, one(kept(impl.MaxDeep - 2)), true},
		{"a choice in a field, one deeper", field, one(kept(impl.MaxDeep - 1)), false},
		{"an open", open, kidsOf(impl.Val{N: 9}, impl.Val{B: wrapped(impl.MaxDeep-3, 9)}), true},
		{"an open, one deeper", open, kidsOf(impl.Val{N: 9}, impl.Val{B: wrapped(impl.MaxDeep-2, 9)}), false},
	})
	if impl.ValOk(choice, 0, impl.Val{N: -1, B: append([]byte{169, 24}, wrapped(impl.MaxDeep-1, 9)...)}) {
		t.Error("kept bytes that are too deep")
	}
}

// keptLong is bytes of an item of Class 2, size bytes long in all.
func keptLong(size int) []byte {
	for body := size - 6; body < size; body++ {
		if b, ok := impl.ItemBytes(impl.Item{Class: 2, Tag: 9, Body: make([]byte, max(body, 0))}); ok && len(b) == size {
			return b
		}
	}
	return nil
}

func TestValuesAsLongAsMayBe(t *testing.T) {
	seq := []impl.SType{withExt(seqOf())}
	choice := []impl.SType{withExt(choiceOf(1)), aBool}
	nested := []impl.SType{choiceOf(1), withExt(choiceOf(2)), aBool}
	open := []impl.SType{seqOf(1, 2), anInt, withExt(openOf(0, 3)), withExt(choiceOf(4)), aBool}
	more := func(sizes ...int) impl.Val {
		var v impl.Val
		for _, size := range sizes {
			v.More = append(v.More, keptLong(size))
		}
		return v
	}
	kept := func(size int) impl.Val { return impl.Val{N: -1, B: keptLong(size)} }
	checkVals(t, []valCase{
		{"More", seq, more(impl.MaxBytes - 4), true},
		{"More, one longer", seq, more(impl.MaxBytes - 3), false},
		{"four of More", seq, more(5000, 5000, 5000, 4996), true},
		{"four of More, one longer", seq, more(5000, 5000, 5000, 4997), false},
		{"four of More, far longer", seq, more(20000, 20000, 20000, 20000), false},
		{"a choice", choice, kept(impl.MaxBytes), true},
		{"a choice in a choice", nested, pick(0, kept(impl.MaxBytes-4)), true},
		{"a choice in a choice, one longer", nested, pick(0, kept(impl.MaxBytes-3)), false},
		{"an open", open, kidsOf(impl.Val{N: 9}, impl.Val{B: keptLong(impl.MaxBytes - 11)}), true},
		{"an open, one longer", open, kidsOf(impl.Val{N: 9}, impl.Val{B: keptLong(impl.MaxBytes - 10)}), false},
		{"an open's choice", open, kidsOf(impl.Val{}, one(kept(impl.MaxBytes-11))), true},
		{"an open's choice, one longer", open, kidsOf(impl.Val{}, one(kept(impl.MaxBytes-10))), false},
	})
	if impl.ValOk(choice, 0, impl.Val{N: -1, B: append(keptLong(impl.MaxBytes), 0)}) {
		t.Error("kept bytes that are too long")
	}
}

// Choices of empty seqs are the smallest values: two of them have one item of two bytes.
func TestManySmallValues(t *testing.T) {
	list := []impl.SType{listOf(1, 0, 200), listOf(2, 0, 200), choiceOf(3), seqOf()}
	inner := kidsOf(make([]impl.Val, 200)...)
	for i := range inner.Kids {
		inner.Kids[i] = pick(0, impl.Val{})
	}
	// 4 bytes ahead of each 400; and 4 ahead of all.
	var v impl.Val
	for range 49 {
		v.Kids = append(v.Kids, inner)
	}
	rest := impl.MaxBytes - 4 - 49*404
	last := kidsOf(inner.Kids[:(rest-3)/2]...)
	checkVals(t, []valCase{
		{"nearly as many as may be", list, kidsOf(append(v.Kids[:49:49], last)...), true},
		{"too many", list, kidsOf(append(v.Kids[:49:49], inner)...), false},
	})
}

func TestValuesInManyPlacesEndSoon(t *testing.T) {
	list := chain(impl.MaxLevels, func(kid int64) impl.SType { return listOf(kid, 0, 200) })
	v := impl.Val{}
	for range impl.MaxLevels - 1 {
		v = kidsOf(v, v, v, v, v, v, v, v, v, v, v, v, v, v, v, v, v, v, v, v)
	}
	checkVals(t, []valCase{{"20 to the 7th values", list, v, false}})
	loop := kidsOf(make([]impl.Val, 200)...)
	for i := range loop.Kids {
		loop.Kids[i] = loop
	}
	checkVals(t, []valCase{{"a value within itself", list, loop, false}})
	wide := []impl.SType{listOf(1, 0, 200), listOf(2, 0, 200), withExt(choiceOf(3)), aBool}
	kept := impl.Val{N: -1, B: keptLong(impl.MaxBytes)}
	row := kidsOf(make([]impl.Val, 200)...)
	for i := range row.Kids {
		row.Kids[i] = kept
	}
	rows := kidsOf(make([]impl.Val, 200)...)
	for i := range rows.Kids {
		rows.Kids[i] = row
	}
	checkVals(t, []valCase{{"long bytes in many places", wide, rows, false}})
}

type decCase struct {
	name   string
	list   []impl.SType
	b      []byte
	strict int64
	lax    int64
}

func checkDecs(t *testing.T, rows []decCase) {
	t.Helper()
	for _, row := range rows {
		if !impl.SchemaOk(row.list) {
			t.Error(row.name, "is no schema")
			continue
		}
		v, code := impl.DecVal(row.list, 0, row.b, false)
		if code != row.strict || code != 0 && !noVal(v) {
			t.Error(row.name, "strictly", v, code)
		}
		if b, ok := impl.EncVal(row.list, 0, v); code == 0 && (!ok || !bytes.Equal(b, row.b)) {
			t.Error(row.name, "is written as", b, ok)
		}
		w, code := impl.DecVal(row.list, 0, row.b, true)
		if code != row.lax || code != 0 && !noVal(w) {
			t.Error(row.name, "laxly", w, code)
		}
		if row.strict == 0 && !sameVal(v, w) {
			t.Error(row.name, "two values", v, w)
		}
		if code == 0 && !impl.ValOk(row.list, 0, w) {
			t.Error(row.name, "laxly, not right", w)
		}
	}
}

func TestSimpleCodes(t *testing.T) {
	bools := []impl.SType{aBool}
	ints := []impl.SType{anInt}
	wide := []impl.SType{{Kind: impl.SInt, Lo: -impl.MaxWhole, Hi: impl.MaxWhole}}
	sized := []impl.SType{{Kind: impl.SBytes, Lo: 1, Hi: 3}}
	texts := []impl.SType{{Kind: impl.SText, Lo: 1, Hi: 3}}
	enum := []impl.SType{{Kind: impl.SEnum, Hi: 3}}
	more := []impl.SType{{Kind: impl.SEnum, Hi: 3, Ext: true}}
	const short, tag, trail, long = impl.TShort, impl.TTag, impl.TTrail, impl.TLong
	const typ, form, value = impl.DType, impl.DForm, impl.DValue
	checkDecs(t, []decCase{
		{"nothing", bools, nil, short, short},
		{"a lax tag", bools, []byte{31, 1, 1, 255}, tag, 0},
		{"a lax length", bools, []byte{1, 129, 1, 255}, impl.TLen, 0},
		{"an open item", []impl.SType{seqOf(1), aBool}, []byte{48, 128, 128, 1, 0, 0, 0}, impl.TLen, 0},
		{"something behind", bools, []byte{1, 1, 255, 0}, trail, trail},
		{"too long", bools, make([]byte, impl.MaxBytes+1), long, long},
		{"too deep", bools, append([]byte{169, 24}, wrapped(impl.MaxDeep-1, 9)...), impl.TDeep, impl.TDeep},
		{"the reader's code ahead of the type", bools, []byte{2, 1}, short, short},
		{"a bool: class", bools, []byte{65, 1, 255}, typ, typ},
		{"a bool: tag", bools, []byte{2, 1, 255}, typ, typ},
		{"a bool: Cons", bools, []byte{33, 0}, typ, typ},
		{"a bool: no byte", bools, []byte{1, 0}, form, form},
		{"a bool: two bytes", bools, []byte{1, 2, 0, 0}, form, form},
		{"a bool: 1", bools, []byte{1, 1, 1}, form, 0},
		{"a bool: 254", bools, []byte{1, 1, 254}, form, 0},
		{"an int: tag", ints, []byte{10, 1, 5}, typ, typ},
		{"an int: class", ints, []byte{130, 1, 5}, typ, typ},
		{"an int: Cons", ints, []byte{34, 0}, typ, typ},
		{"an int: no byte", ints, []byte{2, 0}, form, form},
		{"an int: a byte too many", ints, []byte{2, 2, 0, 5}, form, 0},
		{"an int: a byte too many, below 0", ints, []byte{2, 2, 255, 255}, form, 0},
		{"an int: eight bytes", ints, []byte{2, 8, 0, 0, 0, 0, 0, 0, 0, 5}, form, 0},
		{"an int: eight bytes below 0", ints, []byte{2, 8, 255, 255, 255, 255, 255, 255, 255, 251}, form, 0},
		{"an int: nine bytes", ints, []byte{2, 9, 0, 0, 0, 0, 0, 0, 0, 0, 5}, form, form},
		{"an int: too small", ints, []byte{2, 1, 250}, value, value},
		{"an int: the least", ints, []byte{2, 1, 251}, 0, 0},
		{"an int: the most", ints, []byte{2, 2, 1, 44}, 0, 0},
		{"an int: too great", ints, []byte{2, 2, 1, 45}, value, value},
		{"an int: form ahead of value", ints, []byte{2, 3, 0, 1, 45}, form, value},
		{"an int: the greatest of eight bytes", wide, []byte{2, 8, 127, 255, 255, 255, 255, 255, 255, 255}, value, value},
		{"an int: the least of eight bytes", wide, []byte{2, 8, 128, 0, 0, 0, 0, 0, 0, 0}, value, value},
		{"bytes: tag", sized, []byte{12, 1, 65}, typ, typ},
		{"bytes: Cons", sized, []byte{36, 2, 4, 0}, typ, typ},
		{"bytes: none", sized, []byte{4, 0}, value, value},
		{"bytes: four", sized, []byte{4, 4, 1, 2, 3, 4}, value, value},
		{"bytes: three", sized, []byte{4, 3, 1, 2, 3}, 0, 0},
		{"text: tag", texts, []byte{4, 1, 65}, typ, typ},
		{"text: none", texts, []byte{12, 0}, value, value},
		{"text: four", texts, []byte{12, 4, 65, 65, 65, 65}, value, value},
		{"text: 31", texts, []byte{12, 1, 31}, value, value},
		{"text: 32", texts, []byte{12, 1, 32}, 0, 0},
		{"text: 126", texts, []byte{12, 1, 126}, 0, 0},
		{"text: 127", texts, []byte{12, 2, 65, 127}, value, value},
		{"enum: tag", enum, []byte{2, 1, 1}, typ, typ},
		{"enum: no byte", enum, []byte{10, 0}, form, form},
		{"enum: a byte too many", enum, []byte{10, 2, 0, 3}, form, 0},
		{"enum: nine bytes", enum, []byte{10, 9, 0, 0, 0, 0, 0, 0, 0, 0, 1}, form, form},
		{"enum: 4", enum, []byte{10, 1, 4}, value, value},
		{"enum: -1", enum, []byte{10, 1, 255}, value, value},
		{"ext enum: 4", more, []byte{10, 1, 4}, 0, 0},
		{"ext enum: -1", more, []byte{10, 1, 255}, value, value},
		{"ext enum: MaxEnum", more, []byte{10, 3, 15, 66, 64}, 0, 0},
		{"ext enum: MaxEnum + 1", more, []byte{10, 3, 15, 66, 65}, value, value},
	})
}

func TestSeqCodes(t *testing.T) {
	const typ, form, value, miss, more = impl.DType, impl.DForm, impl.DValue, impl.DMiss, impl.DMore
	// Three fields; of them the second may be out.
	list := []impl.SType{seqOf(1, 2, 1), aBool, anOpt}
	ext := copySchema(list)
	ext[0].Ext = true
	all := []byte{128, 1, 0, 129, 1, 0, 130, 1, 0}
	with := func(parts ...[]byte) []byte {
		inner := bytes.Join(parts, nil)
		return append([]byte{48, byte(len(inner))}, inner...)
	}
	five := bytes.Repeat([]byte{131, 0}, 5)
	checkDecs(t, []decCase{
		{"all", list, with(all), 0, 0},
		{"the second out", list, with(all[:3], all[6:]), 0, 0},
		{"a tag", list, append([]byte{49, 9}, all...), typ, typ},
		{"a class", list, append([]byte{112, 9}, all...), typ, typ},
		{"no Cons", list, []byte{16, 0}, typ, typ},
		{"none", list, with(), miss, miss},
		{"the first missing", list, with(all[3:]), miss, miss},
		{"the last missing", list, with(all[:6]), miss, miss},
		{"two missing", list, with(all[:3]), miss, miss},
		{"in another order", list, with(all[:3], all[6:], all[3:6]), more, more},
		{"the first twice", list, with(all[:3], all), miss, miss},
		{"the last twice", list, with(all, all[6:]), more, more},
		{"the second twice", list, with(all[:6], all[3:]), miss, miss},
		{"a class for a field", list, with([]byte{64, 1, 0}, all[3:]), miss, miss},
		{"a class for the field with Opt", list, with(all[:3], []byte{193, 1, 0}, all[6:]), miss, miss},
		{"a field that is Cons", list, with([]byte{160, 0}, all[3:]), typ, typ},
		{"an Opt field that is Cons", list, with(all[:3], []byte{161, 0}, all[6:]), typ, typ},
		{"an Opt field's form", list, with(all[:3], []byte{129, 0}, all[6:]), form, form},
		{"one more", list, with(all, []byte{131, 0}), more, more},
		{"one more, with ext", ext, with(all, []byte{131, 0}), 0, 0},
		{"four more, with ext", ext, with(all, five[:8]), 0, 0},
		{"five more, with ext", ext, with(all, five), more, more},
		{"a field's tag behind, with ext", ext, with(all, []byte{130, 0}), more, more},
		{"class 0 behind, with ext", ext, with(all, []byte{4, 0}), more, more},
		{"class 3 behind, with ext", ext, with(all, []byte{195, 0}), more, more},
		{"a wrong one behind a right one", ext, with(all, []byte{131, 0, 128, 0}), more, more},
		{"one more ahead", ext, with([]byte{131, 0}, all), miss, miss},
		{"a fault in a field ahead of one that is missing", list, with([]byte{128, 0}), form, form},
		{"one that is missing ahead of a fault in a field", list, with([]byte{129, 0}), miss, miss},
		{"a fault in a field ahead of one more", list, with(all[:6], []byte{130, 0, 131, 0}), form, form},
		{"the left fault", list, with([]byte{128, 0}, []byte{161, 0}, all[6:]), form, form},
		{"the other left fault", list, with([]byte{160, 0}, []byte{129, 0}, all[6:]), typ, typ},
		{"the outer fault", list, append([]byte{49, 2}, 128, 0), typ, typ},
	})
	deep := []impl.SType{seqOf(1, 2), seqOf(2), anInt}
	checkDecs(t, []decCase{
		{"the inner fault, but left", deep, []byte{48, 4, 160, 2, 128, 0}, form, form},
		{"the inner one missing, but left", deep, []byte{48, 4, 160, 0, 129, 0}, miss, miss},
		{"the inner one more, but left", deep, []byte{48, 9, 160, 5, 128, 1, 0, 129, 0, 129, 0}, more, more},
		{"the inner value, but left", deep, []byte{48, 8, 160, 4, 128, 2, 1, 45, 129, 0}, value, value},
	})
}

// Each kind's DValue stands to the left of a form that is wrong.
func TestValueLeftOfForm(t *testing.T) {
	const form, value = impl.DForm, impl.DValue
	kinds := []struct {
		s    impl.SType
		item []byte
	}{
		{anInt, []byte{128, 2, 1, 45}},
		{impl.SType{Kind: impl.SEnum, Hi: 3}, []byte{128, 1, 4}},
		{impl.SType{Kind: impl.SBytes, Lo: 1, Hi: 2}, []byte{128, 0}},
		{impl.SType{Kind: impl.SText, Lo: 1, Hi: 2}, []byte{128, 1, 31}},
		{listOf(2, 1, 2), []byte{160, 0}},
	}
	for _, kind := range kinds {
		list := []impl.SType{seqOf(1, 2), kind.s, aBool}
		b := append([]byte{48, byte(len(kind.item) + 2)}, kind.item...)
		checkDecs(t, []decCase{{"a value, then a form", list, append(b, 129, 0), value, value}})
	}
	open := []impl.SType{seqOf(1, 2, 3), anInt, openOf(0, 3), aBool}
	checkDecs(t, []decCase{
		{"an open without a Kid, then a form", open, []byte{48, 10, 128, 1, 1, 161, 3, 1, 1, 255, 130, 0}, value, value},
		{"an open with its Kid, then a form", open, []byte{48, 10, 128, 1, 0, 161, 3, 1, 1, 255, 130, 0}, form, form},
	})
}

func TestListCodes(t *testing.T) {
	const typ, form, value = impl.DType, impl.DForm, impl.DValue
	list := []impl.SType{listOf(1, 1, 2), aBool}
	checkDecs(t, []decCase{
		{"one", list, []byte{49, 3, 1, 1, 255}, 0, 0},
		{"no Cons", list, []byte{17, 0}, typ, typ},
		{"a seq's tag", list, []byte{48, 3, 1, 1, 255}, typ, typ},
		{"a class", list, []byte{177, 3, 1, 1, 255}, typ, typ},
		{"none", list, []byte{49, 0}, value, value},
		{"three", list, []byte{49, 9, 1, 1, 255, 1, 1, 255, 1, 1, 255}, value, value},
		{"three, and a fault", list, []byte{49, 8, 1, 0, 1, 1, 255, 1, 1, 255}, value, value},
		{"another kind", list, []byte{49, 3, 2, 1, 0}, typ, typ},
		{"a name", list, []byte{49, 3, 128, 1, 255}, typ, typ},
		{"the left fault", list, []byte{49, 4, 1, 0, 2, 0}, form, form},
		{"the other left fault", list, []byte{49, 4, 2, 0, 1, 0}, typ, typ},
		{"the count ahead of what is inside", []impl.SType{listOf(1, 0, 0), aBool}, []byte{49, 2, 2, 0}, value, value},
	})
}

func TestChoiceCodes(t *testing.T) {
	const typ, form, value = impl.DType, impl.DForm, impl.DValue
	list := []impl.SType{choiceOf(2, 1), choiceOf(2), aBool}
	ext := copySchema(list)
	ext[0].Ext = true
	checkDecs(t, []decCase{
		{"the first", list, []byte{128, 1, 255}, 0, 0},
		{"the second", list, []byte{161, 3, 128, 1, 255}, 0, 0},
		{"the kid's own tag", list, []byte{1, 1, 255}, typ, typ},
		{"class 3", list, []byte{192, 1, 255}, typ, typ},
		{"no such kid", list, []byte{130, 1, 255}, typ, typ},
		{"kept", ext, []byte{130, 1, 255}, 0, 0},
		{"kept, lax", ext, []byte{159, 2, 129, 1, 255}, impl.TTag, 0},
		{"class 3, with ext", ext, []byte{194, 1, 255}, typ, typ},
		{"class 0, with ext", ext, []byte{2, 1, 255}, typ, typ},
		{"the first, Cons", ext, []byte{160, 0}, typ, typ},
		{"the first's form", ext, []byte{128, 0}, form, form},
		{"the second, not Cons", ext, []byte{129, 3, 128, 1, 255}, typ, typ},
		{"the second, without a Kid", ext, []byte{161, 0}, typ, typ},
		{"the second, with two Kids", ext, []byte{161, 6, 128, 1, 255, 128, 1, 255}, typ, typ},
		{"the second, with two Kids, one at fault", ext, []byte{161, 5, 128, 0, 128, 1, 255}, typ, typ},
		{"the second's tag", ext, []byte{161, 3, 129, 1, 255}, typ, typ},
		{"the second's form", ext, []byte{161, 2, 128, 0}, form, form},
		{"in a list, the count first", []impl.SType{listOf(1, 0, 1), choiceOf(2), aBool}, []byte{49, 4, 129, 0, 129, 0}, value, value},
	})
}

func TestOpenCodes(t *testing.T) {
	const typ, form, value, miss, more = impl.DType, impl.DForm, impl.DValue, impl.DMiss, impl.DMore
	list := []impl.SType{seqOf(1, 2), anInt, openOf(0, 4, 3), choiceOf(4), aBool}
	ext := copySchema(list)
	ext[2].Ext = true
	opt := copySchema(ext)
	opt[2].Opt = true
	at := func(number byte, rest ...byte) []byte {
		return append([]byte{48, byte(3 + len(rest)), 128, 1, number}, rest...)
	}
	checkDecs(t, []decCase{
		{"a bool", list, at(0, 161, 3, 1, 1, 255), 0, 0},
		{"a choice", list, at(1, 161, 3, 128, 1, 255), 0, 0},
		{"none for 2", list, at(2, 161, 3, 1, 1, 255), value, value},
		{"none for -1", list, at(255, 161, 3, 1, 1, 255), value, value},
		{"kept for 2", ext, at(2, 161, 3, 1, 1, 255), 0, 0},
		{"kept for -1", ext, at(255, 161, 2, 224, 0), 0, 0},
		{"kept, lax", ext, at(2, 161, 128, 4, 129, 0, 0, 0), impl.TLen, 0},
		{"the other's item for 0", ext, at(0, 161, 3, 128, 1, 255), typ, typ},
		{"the other's item for 1", ext, at(1, 161, 3, 1, 1, 255), typ, typ},
		{"named outright", list, at(0, 129, 1, 255), typ, typ},
		{"named outright, Cons", list, at(0, 161, 0), typ, typ},
		{"two Kids", list, at(0, 161, 6, 1, 1, 255, 1, 1, 255), typ, typ},
		{"two Kids, kept", ext, at(2, 161, 6, 1, 1, 255, 1, 1, 255), typ, typ},
		{"what is around ahead of the number", list, at(2, 161, 0), typ, typ},
		{"the number ahead of what is inside", list, at(2, 161, 2, 1, 0), value, value},
		{"a form", list, at(0, 161, 2, 1, 0), form, form},
		{"missing", ext, at(0), miss, miss},
		{"missing for 2", list, at(2), miss, miss},
		{"out", opt, at(0), 0, 0},
		{"out for 2", opt, at(2), 0, 0},
		{"one more", opt, at(0, 130, 0), more, more},
		{"the field's own fault", ext, []byte{48, 6, 128, 0, 161, 2, 1, 0}, form, form},
		{"the field's own value", list, []byte{48, 8, 128, 2, 1, 45, 161, 2, 1, 0}, value, value},
	})
}

func TestKeptInCanonicalForm(t *testing.T) {
	list := []impl.SType{withExt(seqOf(1, 2, 3)), anInt, withExt(openOf(0, 4)), withExt(choiceOf(4)), aBool}
	b := []byte{48, 128, 159, 0, 2, 0, 7, 161, 128, 36, 128, 4, 129, 1, 9, 0, 0, 0, 0, 162, 129, 5, 159, 5, 130, 0, 0, 159, 128, 9, 0, 0, 0}
	v, code := impl.DecVal(list, 0, b, true)
	want := impl.Val{Kids: []impl.Val{{N: 7}, {B: []byte{36, 3, 4, 1, 9}}, {N: -1, B: []byte{133, 0}}}, More: [][]byte{{137, 0}}}
	if code != 0 || !sameVal(v, want) {
		t.Error(v, code)
	}
	if _, code := impl.DecVal(list, 0, b, false); code != impl.TLen {
		t.Error("strictly", code)
	}
}

func TestAnyValueIsReadBack(t *testing.T) {
	r := rand.New(rand.NewSource(3))
	for i := range 4000 {
		list := anySchema(r)
		if !impl.SchemaOk(list) {
			t.Fatal(i, "no schema", list)
		}
		v := anyVal(r, list, 0, 0)
		b, ok := impl.EncVal(list, 0, v)
		if !ok || !impl.ValOk(list, 0, v) {
			t.Fatal(i, "no value", list, v)
		}
		w, code := impl.DecVal(list, 0, b, false)
		if code != 0 || !sameVal(v, w) {
			t.Fatal(i, "not read back", list, v, w, code)
		}
		x, _, _ := impl.ReadItem(b, false)
		lax := laxBytes(r, x)
		if len(lax) > impl.MaxBytes {
			continue
		}
		if w, code := impl.DecVal(list, 0, lax, true); code != 0 || !sameVal(v, w) {
			t.Fatal(i, "not read back laxly", list, v, w, code)
		}
	}
}

func TestWhatIsReadIsRight(t *testing.T) {
	r := rand.New(rand.NewSource(4))
	read := 0
	for i := range 6000 {
		list := anySchema(r)
		b, _ := impl.EncVal(list, 0, anyVal(r, list, 0, 0))
		for range 1 + r.Intn(2) {
			at := r.Intn(len(b))
			b[at] = byte(r.Intn(256))
			if r.Intn(2) == 0 {
				b[at] = []byte{0, 1, 2, 127, 128, 129, 160, 161, 255}[r.Intn(9)]
			}
		}
		v, code := impl.DecVal(list, 0, b, false)
		w, lax := impl.DecVal(list, 0, b, true)
		if code != 0 && !noVal(v) || lax != 0 && !noVal(w) || lax == 0 && !impl.ValOk(list, 0, w) {
			t.Fatal(i, list, b, v, code, w, lax)
		}
		if code != 0 {
			continue
		}
		read++
		if again, ok := impl.EncVal(list, 0, v); !ok || !bytes.Equal(again, b) || lax != 0 || !sameVal(v, w) {
			t.Fatal(i, "read, but written otherwise", list, b, again, lax)
		}
	}
	if read < 500 {
		t.Error("too few were read", read)
	}
}
