package tests

import (
	"bytes"
	"math"
	"math/rand"
	"strconv"
	"strings"
	"testing"

	"loop.example/g00041/impl"
)

// bits are written as 0 and 1, with blanks wherever they help to read.
func bitsOf(text string) []byte {
	var b []byte
	at := 0
	for _, mark := range strings.ReplaceAll(text, " ", "") {
		if at%8 == 0 {
			b = append(b, 0)
		}
		if mark == '1' {
			b[at/8] |= 128 >> (at % 8)
		}
		at++
	}
	return b
}

// inBits is a number in so many bits.
func inBits(n int64, width int) string {
	text := strconv.FormatInt(n, 2)
	return strings.Repeat("0", width-len(text)) + text
}

// keptBits is bytes kept, their number ahead of them.
func keptBits(b ...byte) string {
	return inBits(int64(len(b)), 15) + " " + bytesBits(b...)
}

func bytesBits(b ...byte) string {
	var text strings.Builder
	for _, x := range b {
		text.WriteString(inBits(int64(x), 8) + " ")
	}
	return text.String()
}

func lettersBits(letters string) string {
	var text strings.Builder
	for _, x := range []byte(letters) {
		text.WriteString(inBits(int64(x)-32, 7) + " ")
	}
	return text.String()
}

func countBits(text string) int64 {
	return int64(strings.Count(text, "0") + strings.Count(text, "1"))
}

type packCase struct {
	name string
	list []impl.SType
	v    impl.Val
	bits string
}

// checkPacks holds values to their bits, both ways: cut off they lack, and nothing may
// stand behind them.
func checkPacks(t *testing.T, rows []packCase) {
	t.Helper()
	for _, row := range rows {
		want := bitsOf(row.bits)
		b, ok := impl.PackVal(row.list, 0, row.v)
		if !ok || !bytes.Equal(b, want) {
			t.Error(row.name, "got", b, ok, "want", want)
			continue
		}
		if v, code := impl.UnpackVal(row.list, 0, want); code != 0 || !sameVal(v, row.v) {
			t.Error(row.name, "read", v, code)
		}
		for end := range want {
			if end > 300 && end < len(want)-3 {
				continue
			}
			if v, code := impl.UnpackVal(row.list, 0, want[:end]); code != impl.TShort || !noVal(v) {
				t.Error(row.name, "cut off at", end, v, code)
			}
		}
		checkBehind(t, row, want)
		checkSpan(t, row)
	}
}

func checkBehind(t *testing.T, row packCase, b []byte) {
	t.Helper()
	if len(b) == impl.MaxBytes {
		return
	}
	for _, last := range []byte{0, 1, 255} {
		if v, code := impl.UnpackVal(row.list, 0, append(bytes.Clone(b), last)); code != impl.TTrail || !noVal(v) {
			t.Error(row.name, "a byte behind", last, v, code)
		}
	}
	for at := countBits(row.bits); at < int64(8*len(b)); at++ {
		more := bytes.Clone(b)
		more[at/8] |= 128 >> (at % 8)
		if v, code := impl.UnpackVal(row.list, 0, more); code != impl.TTrail || !noVal(v) {
			t.Error(row.name, "a bit behind at", at, v, code)
		}
	}
}

func checkSpan(t *testing.T, row packCase) {
	t.Helper()
	count := countBits(row.bits)
	fewest, most := impl.Fewest(row.list, 0), impl.Most(row.list, 0)
	if fewest < 0 || count < fewest || most != -2 && count > most {
		t.Error(row.name, "has", count, "bits, not of", fewest, "to", most)
	}
}

func ofInt(lo int64, hi int64) []impl.SType { return []impl.SType{{Kind: impl.SInt, Lo: lo, Hi: hi}} }

func ofBytes(lo int64, hi int64) []impl.SType {
	return []impl.SType{{Kind: impl.SBytes, Lo: lo, Hi: hi}}
}

func ofText(lo int64, hi int64) []impl.SType {
	return []impl.SType{{Kind: impl.SText, Lo: lo, Hi: hi}}
}

func ofEnum(hi int64, ext bool) []impl.SType {
	return []impl.SType{{Kind: impl.SEnum, Hi: hi, Ext: ext}}
}

func TestPackedNumbers(t *testing.T) {
	num := func(n int64) impl.Val { return impl.Val{N: n} }
	whole := ofInt(-impl.MaxWhole, impl.MaxWhole)
	checkPacks(t, []packCase{
		{"no", []impl.SType{aBool}, num(0), "0"},
		{"yes", []impl.SType{aBool}, num(1), "1"},
		{"in 1", ofInt(7, 7), num(7), ""},
		{"in 1, below 0", ofInt(-7, -7), num(-7), ""},
		{"0 in 2", ofInt(7, 8), num(7), "0"},
		{"1 in 2", ofInt(7, 8), num(8), "1"},
		{"2 in 3", ofInt(-1, 1), num(1), "10"},
		{"3 in 4", ofInt(-1, 2), num(2), "11"},
		{"0 in 5", ofInt(-1, 3), num(-1), "000"},
		{"4 in 5", ofInt(-1, 3), num(3), "100"},
		{"255 in 256", ofInt(1, 256), num(256), "11111111"},
		{"256 in 257", ofInt(1, 257), num(257), "100000000"},
		{"205 in 306", []impl.SType{anInt}, num(200), "011001101"},
		{"-MaxWhole", whole, num(-impl.MaxWhole), inBits(0, 51)},
		{"MaxWhole", whole, num(impl.MaxWhole), inBits(2*impl.MaxWhole, 51)},
		{"0 in the middle", whole, num(0), inBits(impl.MaxWhole, 51)},
		{"enum in 1", ofEnum(0, false), num(0), ""},
		{"enum in 2", ofEnum(1, false), num(1), "1"},
		{"enum in 4", ofEnum(3, false), num(3), "11"},
		{"enum in 5", ofEnum(4, false), num(3), "011"},
		{"enum in 1001", ofEnum(1000, false), num(1000), "1111101000"},
		{"ext enum in 1", ofEnum(0, true), num(0), "0"},
		{"ext enum, one above", ofEnum(0, true), num(1), "1" + inBits(1, 20)},
		{"ext enum, Hi", ofEnum(3, true), num(3), "0 11"},
		{"ext enum, Hi + 1", ofEnum(3, true), num(4), "1" + inBits(4, 20)},
		{"ext enum, MaxEnum", ofEnum(1000, true), num(impl.MaxEnum), "1" + inBits(impl.MaxEnum, 20)},
		{"ext enum of 1000", ofEnum(1000, true), num(999), "0 1111100111"},
	})
}

func TestPackedRows(t *testing.T) {
	b := func(list ...byte) impl.Val { return impl.Val{B: list} }
	text := func(s string) impl.Val { return impl.Val{B: []byte(s)} }
	long := bytes.Repeat([]byte{170}, impl.MaxSize)
	checkPacks(t, []packCase{
		{"no bytes in 1", ofBytes(0, 0), b(), ""},
		{"two bytes in 1", ofBytes(2, 2), b(0, 255), "00000000 11111111"},
		{"no byte in 2", ofBytes(0, 1), b(), "0"},
		{"a byte in 2", ofBytes(0, 1), b(5), "1 00000101"},
		{"the fewest", ofBytes(2, 4), b(1, 2), "00 00000001 00000010"},
		{"the most", ofBytes(2, 4), b(1, 2, 3, 128), "10 00000001 00000010 00000011 10000000"},
		{"MaxSize bytes", ofBytes(0, impl.MaxSize), impl.Val{B: long}, "1111101000" + bytesBits(long...)},
		{"MaxSize bytes in 1000", ofBytes(1, impl.MaxSize), impl.Val{B: long}, "1111100111" + bytesBits(long...)},
		{"no letter in 1", ofText(0, 0), text(""), ""},
		{"the least letter", ofText(1, 1), text(" "), "0000000"},
		{"the greatest letter", ofText(1, 1), text("~"), "1011110"},
		{"two letters in 4", ofText(0, 3), text("hi"), "10 1001000 1001001"},
		{"one letter in 3", ofText(1, 3), text("!"), "00 0000001"},
		{"MaxSize letters", ofText(0, impl.MaxSize), text(strings.Repeat("~", impl.MaxSize)), "1111101000" + lettersBits(strings.Repeat("~", impl.MaxSize))},
	})
}

func TestPackedSeqs(t *testing.T) {
	num := func(n int64) impl.Val { return impl.Val{N: n} }
	ext := []impl.SType{withExt(seqOf(1, 2)), aBool, anOpt}
	opts := []impl.SType{seqOf(1, 2, 3, 1), withOpt(ofInt(0, 3)[0]), aBool, withOpt(ofText(1, 1)[0])}
	more := func(v impl.Val, list ...[]byte) impl.Val { v.More = list; return v }
	empty := []impl.SType{withExt(seqOf())}
	checkPacks(t, []packCase{
		{"no field", []impl.SType{seqOf()}, impl.Val{}, ""},
		{"two fields", []impl.SType{seqOf(1, 2), aBool, anInt}, kidsOf(num(1), num(-5)), "1 000000000"},
		{"all there", opts, kidsOf(num(2), num(1), impl.Val{B: []byte("a")}, num(3)), "111 10 1 1000001 11"},
		{"all out", opts, kidsOf(out, num(1), out, out), "000 1"},
		{"the first there", opts, kidsOf(num(2), num(0), out, out), "100 10 0"},
		{"the second there", opts, kidsOf(out, num(0), impl.Val{B: []byte("~")}, out), "010 0 1011110"},
		{"the last there", opts, kidsOf(out, num(1), out, num(1)), "001 1 01"},
		{"ext, no field", empty, impl.Val{}, "0"},
		{"ext, a field", ext, kidsOf(num(1), out), "0 0 1"},
		{"ext, two fields", ext, kidsOf(num(0), num(1)), "0 1 0 1"},
		{"one of More", ext, more(kidsOf(num(1), out), []byte{130, 0}), "1 0 1 00" + keptBits(130, 0)},
		{"two of More", ext, more(kidsOf(num(1), num(0)), []byte{130, 0}, []byte{140, 1, 7}), "1 1 1 0 01" + keptBits(130, 0) + keptBits(140, 1, 7)},
		{"three of More", empty, more(impl.Val{}, []byte{131, 0}, []byte{128, 0}, []byte{131, 0}), "1 10" + keptBits(131, 0) + keptBits(128, 0) + keptBits(131, 0)},
		{"four of More", empty, more(impl.Val{}, []byte{131, 0}, []byte{159, 31, 0}, []byte{128, 0}, []byte{160, 2, 4, 0}), "1 11" + keptBits(131, 0) + keptBits(159, 31, 0) + keptBits(128, 0) + keptBits(160, 2, 4, 0)},
		{"a seq in a seq", []impl.SType{seqOf(1, 2), withOpt(withExt(seqOf(2))), aBool}, kidsOf(more(one(num(1)), []byte{129, 0}), num(0)), "1 1 1 00" + keptBits(129, 0) + "0"},
	})
}

func TestPackedLists(t *testing.T) {
	num := func(n int64) impl.Val { return impl.Val{N: n} }
	full := kidsOf(make([]impl.Val, impl.MaxCount)...)
	checkPacks(t, []packCase{
		{"none in 1", []impl.SType{listOf(1, 0, 0), aBool}, impl.Val{}, ""},
		{"two in 1", []impl.SType{listOf(1, 2, 2), aBool}, kidsOf(num(0), num(1)), "01"},
		{"none in 4", []impl.SType{listOf(1, 0, 3), aBool}, impl.Val{}, "00"},
		{"the fewest in 3", []impl.SType{listOf(1, 1, 3), aBool}, kidsOf(num(1)), "00 1"},
		{"the most in 3", []impl.SType{listOf(1, 1, 3), aBool}, kidsOf(num(1), num(0), num(1)), "10 101"},
		{"MaxCount in 201", []impl.SType{listOf(1, 0, impl.MaxCount), aBool}, full, "11001000" + inBits(0, impl.MaxCount)},
		{"MaxCount in 1", []impl.SType{listOf(1, impl.MaxCount, impl.MaxCount), seqOf()}, full, ""},
		{"lists", []impl.SType{listOf(1, 0, 2), listOf(2, 0, 1), aBool}, kidsOf(one(num(1)), impl.Val{}), "10 11 0"},
		{"seqs with an out", []impl.SType{listOf(1, 0, 2), seqOf(2), anOpt}, kidsOf(one(out), one(num(1))), "10 0 11"},
	})
}

func TestPackedChoices(t *testing.T) {
	num := func(n int64) impl.Val { return impl.Val{N: n} }
	kept := func(b ...byte) impl.Val { return impl.Val{N: -1, B: b} }
	two := []impl.SType{choiceOf(1, 2), aBool, anInt}
	ext := []impl.SType{withExt(choiceOf(1, 2, 1)), aBool, anInt}
	checkPacks(t, []packCase{
		{"one Kid", []impl.SType{choiceOf(1), aBool}, pick(0, num(1)), "1"},
		{"the first of two", two, pick(0, num(1)), "0 1"},
		{"the second of two", two, pick(1, num(200)), "1 011001101"},
		{"the last of three", []impl.SType{choiceOf(1, 1, 1), aBool}, pick(2, num(1)), "10 1"},
		{"the last of twelve", []impl.SType{choiceOf(times(1, impl.MaxFields)...), aBool}, pick(11, num(0)), "1011 0"},
		{"ext, a Kid", ext, pick(2, num(1)), "0 10 1"},
		{"ext, kept", ext, kept(131, 0), "1" + keptBits(131, 0)},
		{"ext, one Kid", []impl.SType{withExt(choiceOf(1)), aBool}, pick(0, num(1)), "0 1"},
		{"ext, kept with much in it", ext, kept(164, 3, 4, 1, 9), "1" + keptBits(164, 3, 4, 1, 9)},
		{"a choice in a choice", []impl.SType{choiceOf(2, 1), choiceOf(2, 2, 2), aBool}, pick(1, pick(2, num(1))), "1 10 1"},
		{"kept as long as may be", ext, kept(keptLong(impl.MaxBytes - 2)...), "1" + keptBits(keptLong(impl.MaxBytes-2)...)},
	})
}

func TestPackedOpens(t *testing.T) {
	num := func(n int64) impl.Val { return impl.Val{N: n} }
	kept := func(b ...byte) impl.Val { return impl.Val{B: b} }
	number := ofInt(-1, 3)[0]
	plain := []impl.SType{seqOf(1, 2), number, openOf(0, 3, 4), aBool, anInt}
	ext := []impl.SType{seqOf(1, 2), number, withExt(openOf(0, 3, 4)), aBool, anInt}
	opt := []impl.SType{seqOf(1, 3, 2), number, withOpt(openOf(0, 3)), aBool}
	checkPacks(t, []packCase{
		{"the first", plain, kidsOf(num(0), one(num(1))), "001 1"},
		{"the second", plain, kidsOf(num(1), one(num(200))), "010 011001101"},
		{"ext, the second", ext, kidsOf(num(1), one(num(-5))), "010 000000000"},
		{"ext, behind the last", ext, kidsOf(num(2), kept(4, 1, 9)), "011" + keptBits(4, 1, 9)},
		{"ext, below 0", ext, kidsOf(num(-1), kept(192, 0)), "000" + keptBits(192, 0)},
		{"opt, there", opt, kidsOf(num(0), num(1), one(num(0))), "1 001 1 0"},
		{"opt, out", opt, kidsOf(num(0), num(1), out), "0 001 1"},
		{"opt, out where it could not be there", opt, kidsOf(num(2), num(1), out), "0 011 1"},
	})
}

func TestPackedAreRight(t *testing.T) {
	list := []impl.SType{seqOf(1, 2, 3), anInt, openOf(0, 4), anOpt, aBool}
	right := kidsOf(impl.Val{}, one(impl.Val{}), out)
	if b, ok := impl.PackVal(list, 0, right); !ok || len(b) != 2 {
		t.Fatal(b, ok)
	}
	rows := []struct {
		name string
		list []impl.SType
		t    int64
		v    impl.Val
	}{
		{"no schema", nil, 0, impl.Val{}},
		{"no schema, but types", []impl.SType{aBool, {}}, 0, impl.Val{}},
		{"below the first", list, -1, impl.Val{}},
		{"behind the last", list, 5, impl.Val{}},
		{"far below", list, math.MinInt64, impl.Val{}},
		{"far behind", list, math.MaxInt64, impl.Val{}},
		{"an open", list, 2, one(impl.Val{})},
		{"a type with Opt", list, 3, impl.Val{}},
		{"another type's value", list, 4, right},
		{"a number that may not be", list, 1, impl.Val{N: 301}},
		{"a bool with bytes", list, 4, impl.Val{B: []byte{1}}},
		{"out", list, 4, out},
		{"a field out", list, 0, kidsOf(out, one(impl.Val{}), out)},
		{"an open without a Kid", list, 0, kidsOf(impl.Val{N: 1}, one(impl.Val{}), out)},
		{"kept of class 0", []impl.SType{withExt(seqOf())}, 0, impl.Val{More: [][]byte{{4, 0}}}},
		{"kept too deep", []impl.SType{withExt(seqOf())}, 0, impl.Val{More: [][]byte{wrapped(impl.MaxDeep-1, 9)}}},
	}
	for _, row := range rows {
		if b, ok := impl.PackVal(row.list, row.t, row.v); ok || len(b) != 0 {
			t.Error(row.name, b, ok)
		}
	}
}

// wideList is of 16 times 196 numbers in 51 bits, and of size bytes: as items they have
// three bytes each, so that their bits are more than these.
func wideList(size int64, more ...impl.SType) []impl.SType {
	list := []impl.SType{seqOf(1, 4), listOf(2, 16, 16), listOf(3, 196, 196), ofInt(-impl.MaxWhole, impl.MaxWhole)[0], ofBytes(size, size)[0]}
	for _, s := range more {
		list[0].Kids = append(list[0].Kids, int64(len(list)))
		list = append(list, s)
	}
	return list
}

func wideVal(size int, more ...impl.Val) impl.Val {
	row := kidsOf(make([]impl.Val, 196)...)
	for i := range row.Kids {
		row.Kids[i].N = int64(i % 100)
	}
	var rows impl.Val
	for range 16 {
		rows.Kids = append(rows.Kids, row)
	}
	return kidsOf(append([]impl.Val{rows, {B: make([]byte, size)}}, more...)...)
}

func TestAsManyBitsAsMayBe(t *testing.T) {
	b, ok := impl.PackVal(wideList(8), 0, wideVal(8))
	if !ok || len(b) != impl.MaxBytes {
		t.Fatal("just MaxBytes", len(b), ok)
	}
	if v, code := impl.UnpackVal(wideList(8), 0, b); code != 0 || !sameVal(v, wideVal(8)) {
		t.Error("read", code)
	}
	if v, code := impl.UnpackVal(wideList(8), 0, b[:impl.MaxBytes-1]); code != impl.TShort || !noVal(v) {
		t.Error("cut off", code)
	}
	if v, code := impl.UnpackVal(wideList(8), 0, append(b, 0)); code != impl.TLong || !noVal(v) {
		t.Error("a byte behind", code)
	}
	if fewest, most := impl.Fewest(wideList(8), 0), impl.Most(wideList(8), 0); fewest != 8*impl.MaxBytes || most != 8*impl.MaxBytes {
		t.Error("not all of them", fewest, most)
	}
	longer := []struct {
		name string
		list []impl.SType
		v    impl.Val
	}{
		{"a byte more", wideList(9), wideVal(9)},
		{"a bit more", wideList(8, aBool), wideVal(8, impl.Val{N: 1})},
		{"a bit 0 more", wideList(8, aBool), wideVal(8, impl.Val{})},
	}
	for _, row := range longer {
		if b, ok := impl.PackVal(row.list, 0, row.v); ok || len(b) != 0 || !impl.ValOk(row.list, 0, row.v) {
			t.Error(row.name, len(b), ok)
		}
	}
	if b, ok := impl.PackVal(wideList(7, aBool), 0, wideVal(7, impl.Val{N: 1})); !ok || len(b) != impl.MaxBytes {
		t.Error("a bit in the last byte", len(b), ok)
	}
}

type unpackCase struct {
	name string
	list []impl.SType
	bits string
	code int64
}

func checkUnpacks(t *testing.T, rows []unpackCase) {
	t.Helper()
	for _, row := range rows {
		if !impl.SchemaOk(row.list) {
			t.Error(row.name, "is no schema")
		}
		v, code := impl.UnpackVal(row.list, 0, bitsOf(row.bits))
		if code != row.code || code != 0 && !noVal(v) {
			t.Error(row.name, "got", v, code, "want", row.code)
		}
	}
}

func TestUnpackNumberCodes(t *testing.T) {
	const short, value, trail = impl.TShort, impl.DValue, impl.TTrail
	fives := ofInt(-1, 3)
	ext := ofEnum(3, true)
	checkUnpacks(t, []unpackCase{
		{"no bit of a bool", []impl.SType{aBool}, "", short},
		{"4 in 5", fives, "100", 0},
		{"5 in 5", fives, "101", value},
		{"7 in 5", fives, "111", value},
		{"5 in 5, and a bit behind", fives, "101 1", value},
		{"nothing in 1", ofInt(7, 7), "", 0},
		{"something in 1", ofInt(7, 7), "0", trail},
		{"305 in 306", []impl.SType{anInt}, "100110001", 0},
		{"306 in 306", []impl.SType{anInt}, "100110010", value},
		{"eight bits in 306, however great", []impl.SType{anInt}, "11111111", short},
		{"the most in 51 bits", ofInt(-impl.MaxWhole, impl.MaxWhole), inBits(2*impl.MaxWhole, 51), 0},
		{"one more", ofInt(-impl.MaxWhole, impl.MaxWhole), inBits(2*impl.MaxWhole+1, 51), value},
		{"all bits", ofInt(-impl.MaxWhole, impl.MaxWhole), strings.Repeat("1", 51), value},
		{"enum 4 of 4", ofEnum(4, false), "100", 0},
		{"enum 5 of 4", ofEnum(4, false), "101", value},
		{"ext enum, no bit", ext, "", short},
		{"ext enum, above Hi", ext, "1" + inBits(4, 20), 0},
		{"ext enum, Hi behind a bit 1", ext, "1" + inBits(3, 20), value},
		{"ext enum, 0 behind a bit 1", ext, "1" + inBits(0, 20), value},
		{"ext enum, MaxEnum", ext, "1" + inBits(impl.MaxEnum, 20), 0},
		{"ext enum, MaxEnum + 1", ext, "1" + inBits(impl.MaxEnum+1, 20), value},
		{"ext enum, MaxEnum + 1, and a byte behind", ext, "1" + inBits(impl.MaxEnum+1, 20) + inBits(0, 12), value},
		{"ext enum, Hi behind a bit 1, and a byte behind", ext, "1" + inBits(3, 20) + inBits(0, 12), value},
		{"ext enum, cut off", ext, "1" + inBits(1, 15), short},
		{"ext enum, above Hi behind a bit 0", ofEnum(4, true), "0 101", value},
		{"value ahead of short", []impl.SType{seqOf(1, 2), fives[0], anInt}, "101 0", value},
		{"short ahead of value", []impl.SType{seqOf(1, 2), anInt, fives[0]}, "000000", short},
		{"value ahead of trail", fives, "101 00000 00000000 1", value},
	})
}

func TestUnpackRowCodes(t *testing.T) {
	const short, value, trail = impl.TShort, impl.DValue, impl.TTrail
	lists := []impl.SType{listOf(1, 1, 3), ofInt(0, 4)[0]}
	checkUnpacks(t, []unpackCase{
		{"three bytes in 2 .. 4", ofBytes(2, 4), "01" + bytesBits(1, 2, 3), 0},
		{"five bytes in 2 .. 4", ofBytes(2, 4), "11" + bytesBits(1, 2, 3, 4, 5), value},
		{"five bytes in 2 .. 4, cut off", ofBytes(2, 4), "11" + bytesBits(1), value},
		{"bytes that lack", ofBytes(2, 4), "10" + bytesBits(1, 2, 3), short},
		{"no number of bytes", ofBytes(2, 4), "", short},
		{"a byte more than is told", ofBytes(2, 4), "00" + bytesBits(1, 2, 3), trail},
		{"letter 94", ofText(0, 3), "01 1011110", 0},
		{"letter 95", ofText(0, 3), "01 1011111", value},
		{"letter 127", ofText(0, 3), "01 1111111", value},
		{"letter 95 ahead of one that lacks", ofText(0, 3), "11 1011111", value},
		{"one that lacks ahead of letter 95", ofText(0, 3), "11 1011110 1011110", short},
		{"four letters in 1 .. 3", ofText(1, 3), "11 1011111", value},
		{"a list of two", lists, "01 000 100", 0},
		{"a list of four in 1 .. 3", lists, "11 111 000 000 000", value},
		{"a list's Kid that may not be", lists, "01 000 101", value},
		{"a Kid that may not be ahead of one that lacks", lists, "10 101 000", value},
		{"a Kid that lacks", lists, "10 000 100", short},
		{"a Kid more than is told", lists, "00 000 100", trail},
	})
}

func TestUnpackSeqCodes(t *testing.T) {
	const short, value, form, trail = impl.TShort, impl.DValue, impl.DForm, impl.TTrail
	ext := []impl.SType{withExt(seqOf(1, 1)), anOpt}
	kept := keptBits(130, 0)
	checkUnpacks(t, []unpackCase{
		{"nothing", ext, "", short},
		{"nothing there", ext, "0 00", 0},
		{"a field there that lacks", []impl.SType{seqOf(1), withOpt(anInt)}, "1", short},
		{"More", ext, "1 00 00" + kept, 0},
		{"no More behind their number", ext, "1 11 11 00", short},
		{"More that lacks", ext, "1 00 01" + kept, short},
		{"one of More behind what is told", ext, "1 00 00" + kept + kept, trail},
		{"kept of class 0", ext, "1 00 00" + keptBits(4, 0), form},
		{"kept of class 1", ext, "1 00 00" + keptBits(66, 0), form},
		{"kept of class 3", ext, "1 00 00" + keptBits(194, 0), form},
		{"kept with a field's tag", ext, "1 00 00" + keptBits(129, 0), form},
		{"kept with another field's tag", ext, "1 00 00" + keptBits(128, 0), form},
		{"kept, nothing", ext, "1 00 00" + keptBits(), form},
		{"kept, a byte behind", ext, "1 00 00" + keptBits(130, 0, 0), form},
		{"kept, cut off", ext, "1 00 00" + keptBits(130, 1), form},
		{"kept, lax", ext, "1 00 00" + keptBits(130, 129, 0), form},
		{"kept, open", ext, "1 00 00" + keptBits(162, 128, 0, 0), form},
		{"kept too deep for anything", ext, "1 00 00" + keptBits(append([]byte{169, 24}, wrapped(impl.MaxDeep-1, 9)...)...), form},
		{"the second kept of class 0", ext, "1 00 01" + kept + keptBits(4, 0), form},
		{"kept whose bytes lack", ext, "1 00 00" + inBits(3, 15) + bytesBits(4, 0), short},
		{"kept whose number lacks", ext, "1 00 00 00000000", short},
		{"MaxBytes kept that lack", ext, "1 00 00" + inBits(impl.MaxBytes, 15), short},
		{"MaxBytes + 1 kept", ext, "1 00 00" + inBits(impl.MaxBytes+1, 15), value},
		{"form ahead of short", ext, "1 00 01" + keptBits(4, 0), form},
		{"form ahead of trail", ext, "1 00 00" + keptBits(4, 0) + kept, form},
		{"short ahead of form", ext, "1 00 01" + keptBits(130, 0) + inBits(2, 15) + bytesBits(4), short},
		{"form ahead of value", []impl.SType{seqOf(1, 2), withExt(seqOf()), anInt}, "1 00" + keptBits(4, 0) + "111111111", form},
		{"value ahead of form", []impl.SType{seqOf(2, 1), withExt(seqOf()), anInt}, "111111111 1 00" + keptBits(4, 0), value},
		{"a field's value ahead of More", []impl.SType{withExt(seqOf(1)), anInt}, "1 111111111 00" + keptBits(4, 0), value},
	})
}

func TestUnpackChoiceCodes(t *testing.T) {
	const short, value, form = impl.TShort, impl.DValue, impl.DForm
	three := []impl.SType{choiceOf(1, 1, 2), aBool, anInt}
	ext := []impl.SType{withExt(choiceOf(1, 1, 2)), aBool, anInt}
	checkUnpacks(t, []unpackCase{
		{"no number", three, "", short},
		{"the last Kid", three, "10 000000000", 0},
		{"no Kid", three, "11 000000000", value},
		{"no Kid, with ext", ext, "0 11 000000000", value},
		{"no Kid, nothing behind", three, "11", value},
		{"a Kid that lacks", three, "10", short},
		{"a Kid that may not be", three, "10 111111111", value},
		{"kept", ext, "1" + keptBits(131, 0), 0},
		{"kept with a Kid's tag", ext, "1" + keptBits(130, 0), form},
		{"kept of class 0", ext, "1" + keptBits(4, 0), form},
		{"kept, nothing", ext, "1" + keptBits(), form},
		{"kept, lax", ext, "1" + keptBits(131, 129, 0), form},
		{"MaxBytes + 1 kept", ext, "1" + inBits(impl.MaxBytes+1, 15), value},
		{"kept that lacks", ext, "1" + inBits(2, 15), short},
	})
}

func TestUnpackOpenCodes(t *testing.T) {
	const short, value, form, trail = impl.TShort, impl.DValue, impl.DForm, impl.TTrail
	number := ofInt(-1, 3)[0]
	plain := []impl.SType{seqOf(1, 2), number, openOf(0, 3, 4), aBool, anInt}
	ext := []impl.SType{seqOf(1, 2), number, withExt(openOf(0, 3, 4)), aBool, anInt}
	opt := []impl.SType{seqOf(1, 2), number, withOpt(openOf(0, 3)), aBool}
	checkUnpacks(t, []unpackCase{
		{"a Kid", plain, "010 000000000", 0},
		{"a Kid that lacks", plain, "010 00000", short},
		{"a Kid that may not be", plain, "010 111111111", value},
		{"no Kid", plain, "011", value},
		{"no Kid, below 0", plain, "000 1", value},
		{"no Kid, ahead of trail", plain, "011 00000 00000000 1", value},
		{"kept", ext, "011" + keptBits(4, 1, 9), 0},
		{"kept of class 2", ext, "000" + keptBits(128, 0), 0},
		{"kept, nothing", ext, "011" + keptBits(), form},
		{"kept, lax", ext, "011" + keptBits(4, 129, 0), form},
		{"kept, class 0 and tag 0", ext, "011" + keptBits(0, 0), form},
		{"MaxBytes + 1 kept", ext, "011" + inBits(impl.MaxBytes+1, 15), value},
		{"kept that lacks", ext, "011" + inBits(2, 15), short},
		{"opt, out", opt, "0 011", 0},
		{"opt, no Kid", opt, "1 011", value},
		{"opt, out, and a bit behind", opt, "0 011 1", trail},
	})
}

func TestUnpackOrder(t *testing.T) {
	long := make([]byte, impl.MaxBytes+1)
	for _, bad := range [][]impl.SType{nil, {aBool, {}}, {anOpt}} {
		if v, code := impl.UnpackVal(bad, 0, long); code != impl.DSchema || !noVal(v) {
			t.Error("no schema", v, code)
		}
	}
	list := []impl.SType{seqOf(1, 2, 3), anInt, openOf(0, 4), anOpt, aBool}
	for _, row := range []struct {
		t    int64
		code int64
	}{{-1, impl.DSchema}, {0, impl.TLong}, {1, impl.TLong}, {2, impl.DSchema}, {3, impl.DSchema}, {4, impl.TLong}, {5, impl.DSchema}, {math.MinInt64, impl.DSchema}, {math.MaxInt64, impl.DSchema}} {
		if v, code := impl.UnpackVal(list, row.t, long); code != row.code || !noVal(v) {
			t.Error(row, v, code)
		}
	}
	if _, code := impl.UnpackVal([]impl.SType{seqOf()}, 0, long[1:]); code != impl.TTrail {
		t.Error("just MaxBytes", code)
	}
	// An item of MaxDeep is right alone, and not within another.
	deep := "1 00" + keptBits(wrapped(impl.MaxDeep-1, 9)...)
	fits := "1 00" + keptBits(wrapped(impl.MaxDeep-2, 9)...)
	seq := []impl.SType{withExt(seqOf())}
	checkUnpacks(t, []unpackCase{
		{"as deep as may be", seq, fits, 0},
		{"too deep, all read", seq, deep, impl.DValue},
		{"too deep, and a bit behind", seq, deep + "1", impl.TTrail},
		{"as long as may be", seq, "1 00" + keptBits(keptLong(impl.MaxBytes-4)...), 0},
		{"too long, all read", seq, "1 00" + keptBits(keptLong(impl.MaxBytes-3)...), impl.DValue},
	})
}

// filled has a seq of values without a bit, count of them with the seq itself, then of
// what is told, and then of four bytes.
func filled(count int64, fields []int64, more ...impl.SType) []impl.SType {
	list := []impl.SType{seqOf(1, 2), listOf(3, 100, 100), listOf(4, 0, 0), listOf(4, 198, 198), seqOf(), ofBytes(4, 4)[0]}
	// The seq, 1 + 100 + 100 * 198 for the first list, and 1 for the second itself.
	list[2].Lo = count - 19903
	list[2].Hi = list[2].Lo
	list[0].Kids = append(append(list[0].Kids, fields...), 5)
	return append(list, more...)
}

// As many values as are told are read where bytes then lack; one more is not begun.
func TestManyValuesWithoutBits(t *testing.T) {
	open := impl.SType{Kind: impl.SOpen, Lo: 2, Ext: true, Kids: []int64{8}}
	rows := []struct {
		name   string
		values int64
		fields []int64
		more   []impl.SType
		bits   string
	}{
		{"nothing else", 0, nil, nil, ""},
		{"a bool", 1, []int64{6}, []impl.SType{aBool}, "1"},
		{"a bool that is out", 0, []int64{6}, []impl.SType{anOpt}, "0"},
		{"a bool that may be out", 1, []int64{6}, []impl.SType{anOpt}, "11"},
		{"two outs of three", 1, []int64{6, 6, 6}, []impl.SType{anOpt}, "0101"},
		{"bytes", 1, []int64{6}, ofBytes(0, 9), "0001" + bytesBits(7)},
		{"a list", 4, []int64{6}, []impl.SType{listOf(7, 3, 3), aBool}, "101"},
		{"a list of none", 1, []int64{6}, []impl.SType{listOf(7, 0, 3), aBool}, "00"},
		{"a seq", 2, []int64{6}, []impl.SType{seqOf(7), aBool}, "1"},
		{"a choice", 2, []int64{6}, []impl.SType{choiceOf(7), aBool}, "1"},
		{"a choice of a choice", 3, []int64{6}, []impl.SType{choiceOf(7), choiceOf(8), aBool}, "1"},
		{"a choice that kept", 1, []int64{6}, []impl.SType{withExt(choiceOf(7)), aBool}, "1" + keptBits(129, 0)},
		{"More", 1, []int64{6}, []impl.SType{withExt(seqOf())}, "1 01" + keptBits(129, 0) + keptBits(129, 0)},
		{"an open", 3, []int64{6, 7}, []impl.SType{ofInt(0, 1)[0], open, seqOf()}, "0"},
		{"an open that kept", 2, []int64{6, 7}, []impl.SType{ofInt(0, 1)[0], open, seqOf()}, "1" + keptBits(129, 0)},
	}
	for _, row := range rows {
		fits := filled(impl.MaxBytes-1-row.values, row.fields, row.more...)
		over := filled(impl.MaxBytes-row.values, row.fields, row.more...)
		checkUnpacks(t, []unpackCase{
			{row.name + ": short at the last value", fits, row.bits, impl.TShort},
			{row.name + ": one value more", over, row.bits, impl.DValue},
			{row.name + ": all read, but not right", fits, row.bits + inBits(0, 32), impl.DValue},
			{row.name + ": all read, and a byte behind", fits, row.bits + inBits(0, 40), impl.TTrail},
			{row.name + ": one value more, and a byte behind", over, row.bits + inBits(0, 40), impl.DValue},
		})
	}
	// Very many, and soon told.
	deep := []impl.SType{}
	for i := int64(1); i < impl.MaxLevels; i++ {
		deep = append(deep, listOf(i, impl.MaxCount, impl.MaxCount))
	}
	checkUnpacks(t, []unpackCase{{"lists of lists", append(deep, seqOf()), "", impl.DValue}})
}

func TestManyRightValues(t *testing.T) {
	list := []impl.SType{listOf(1, 0, 200), listOf(2, 0, 200), choiceOf(3), seqOf()}
	inner := kidsOf(make([]impl.Val, 200)...)
	for i := range inner.Kids {
		inner.Kids[i] = pick(0, impl.Val{})
	}
	var v impl.Val
	for range 49 {
		v.Kids = append(v.Kids, inner)
	}
	b, ok := impl.PackVal(list, 0, v)
	if w, code := impl.UnpackVal(list, 0, b); !ok || code != 0 || !sameVal(w, v) || len(b) != 50 {
		t.Error(len(b), ok, code)
	}
}

type spanCase struct {
	name         string
	list         []impl.SType
	fewest, most int64
}

func checkSpans(t *testing.T, rows []spanCase) {
	t.Helper()
	for _, row := range rows {
		if !impl.SchemaOk(row.list) {
			t.Error(row.name, "is no schema")
		}
		if fewest, most := impl.Fewest(row.list, 0), impl.Most(row.list, 0); fewest != row.fewest || most != row.most {
			t.Error(row.name, "got", fewest, most, "want", row.fewest, row.most)
		}
	}
}

func TestSimpleSpans(t *testing.T) {
	checkSpans(t, []spanCase{
		{"bool", []impl.SType{aBool}, 1, 1},
		{"int in 1", ofInt(7, 7), 0, 0},
		{"int in 2", ofInt(-1, 0), 1, 1},
		{"int in 256", ofInt(0, 255), 8, 8},
		{"int in 257", ofInt(0, 256), 9, 9},
		{"the widest int", ofInt(-impl.MaxWhole, impl.MaxWhole), 51, 51},
		{"no bytes", ofBytes(0, 0), 0, 0},
		{"two bytes", ofBytes(2, 2), 16, 16},
		{"two to four bytes", ofBytes(2, 4), 18, 34},
		{"any bytes", ofBytes(0, impl.MaxSize), 10, 8010},
		{"MaxSize bytes", ofBytes(impl.MaxSize, impl.MaxSize), 8000, 8000},
		{"no letters", ofText(0, 0), 0, 0},
		{"one letter", ofText(1, 1), 7, 7},
		{"one to three letters", ofText(1, 3), 9, 23},
		{"any letters", ofText(0, impl.MaxSize), 10, 7010},
		{"enum of 1", ofEnum(0, false), 0, 0},
		{"enum of 1001", ofEnum(1000, false), 10, 10},
		{"ext enum of 1", ofEnum(0, true), 1, 21},
		{"ext enum of 1001", ofEnum(1000, true), 11, 21},
	})
}

func TestSpansOfSeqsAndLists(t *testing.T) {
	ext := withExt(seqOf())
	checkSpans(t, []spanCase{
		{"no field", []impl.SType{seqOf()}, 0, 0},
		{"ext, no field", []impl.SType{ext}, 1, -2},
		{"fields", []impl.SType{seqOf(1, 2, 1), aBool, anInt}, 11, 11},
		{"opts", []impl.SType{seqOf(1, 2, 1), anOpt, anInt}, 11, 13},
		{"only opts", []impl.SType{seqOf(1, 2), anOpt, withOpt(ofBytes(1, 9)[0])}, 2, 2 + 1 + 4 + 72},
		{"ext and opts", []impl.SType{withExt(seqOf(1, 2)), anOpt, anInt}, 11, -2},
		{"ext within", []impl.SType{seqOf(1, 2), aBool, ext}, 2, -2},
		{"ext within, ahead", []impl.SType{seqOf(2, 1), aBool, ext}, 2, -2},
		{"ext within that may be out", []impl.SType{seqOf(1), withOpt(ext)}, 1, -2},
		{"an ext enum within", []impl.SType{seqOf(1), ofEnum(3, true)[0]}, 3, 21},
		{"a list", []impl.SType{listOf(1, 0, 3), aBool}, 2, 5},
		{"a list from one on", []impl.SType{listOf(1, 1, 3), anInt}, 11, 29},
		{"a list of three", []impl.SType{listOf(1, 3, 3), anInt}, 27, 27},
		{"a list of none", []impl.SType{listOf(1, 0, 0), anInt}, 0, 0},
		{"a list of none around ext", []impl.SType{listOf(1, 0, 0), ext}, 0, 0},
		{"a list of one around ext", []impl.SType{listOf(1, 0, 1), ext}, 1, -2},
		{"a list of two around ext", []impl.SType{listOf(1, 2, 2), ext}, 2, -2},
		{"a list of none around a list around ext", []impl.SType{listOf(1, 0, 0), listOf(2, 1, 1), ext}, 0, 0},
		{"a list around a list of none around ext", []impl.SType{listOf(1, 1, 2), listOf(2, 0, 0), ext}, 1, 1},
		{"a list of none around ext, and ext beside it", []impl.SType{seqOf(1, 2), listOf(2, 0, 0), ext}, 1, -2},
		{"a list of none around a choice with ext", []impl.SType{listOf(1, 0, 0), withExt(choiceOf(2)), aBool}, 0, 0},
		{"a list of none around an open with ext", []impl.SType{listOf(1, 0, 0), seqOf(2, 3), anInt, withExt(openOf(0, 4)), aBool}, 0, 0},
		{"a list around an open with ext", []impl.SType{listOf(1, 0, 1), seqOf(2, 3), anInt, withExt(openOf(0, 4)), aBool}, 1, -2},
	})
	if most := impl.Most([]impl.SType{listOf(1, 0, 0), ext}, 1); most != -2 {
		t.Error("what stands in a list of none, by itself", most)
	}
}

func TestSpansOfChoicesAndOpens(t *testing.T) {
	number := ofInt(-1, 3)[0]
	wide := func(width int) impl.SType { return ofInt(0, 1<<width-1)[0] }
	opened := func(s impl.SType) []impl.SType {
		return []impl.SType{seqOf(1, 2), number, s, anInt, ofBytes(50, 50)[0], withExt(seqOf())}
	}
	checkSpans(t, []spanCase{
		{"one Kid", []impl.SType{choiceOf(1), anInt}, 9, 9},
		{"two Kids", []impl.SType{choiceOf(1, 2), anInt, aBool}, 2, 10},
		{"two Kids, the small one ahead", []impl.SType{choiceOf(2, 1), anInt, aBool}, 2, 10},
		{"three Kids", []impl.SType{choiceOf(1, 2, 2), anInt, aBool}, 3, 11},
		{"twelve Kids", []impl.SType{choiceOf(times(1, 12)...), ofBytes(1, 2)[0]}, 13, 21},
		{"a Kid with ext", []impl.SType{choiceOf(1, 2), aBool, withExt(seqOf())}, 2, -2},
		{"a Kid with ext, ahead", []impl.SType{choiceOf(2, 1), aBool, withExt(seqOf())}, 2, -2},
		{"ext, a small Kid", []impl.SType{withExt(choiceOf(1)), aBool}, 2, -2},
		{"ext, a great Kid", []impl.SType{withExt(choiceOf(1)), ofBytes(50, 50)[0]}, 32, -2},
		{"ext, a Kid with one bit less than bytes kept", []impl.SType{withExt(choiceOf(1)), wide(30)}, 31, -2},
		{"ext, a Kid with one bit more", []impl.SType{withExt(choiceOf(1)), wide(32)}, 32, -2},
		{"ext, a Kid and its number", []impl.SType{withExt(choiceOf(1, 1, 1)), wide(30)}, 32, -2},
		{"ext, a Kid and its number, as many", []impl.SType{withExt(choiceOf(1, 1, 1)), wide(28)}, 31, -2},
		{"an open", opened(openOf(0, 3, 4)), 3 + 9, 3 + 400},
		{"an open, the great one ahead", opened(openOf(0, 4, 3)), 3 + 9, 3 + 400},
		{"an open with one Kid", opened(openOf(0, 4)), 3 + 400, 3 + 400},
		{"an open with ext", opened(withExt(openOf(0, 4))), 3 + 31, -2},
		{"an open with ext and a small Kid", opened(withExt(openOf(0, 3, 4))), 3 + 9, -2},
		{"an open with a Kid with ext", opened(openOf(0, 3, 5)), 3 + 1, -2},
		{"an open that may be out", opened(withOpt(openOf(0, 4))), 1 + 3, 1 + 3 + 400},
		{"an open that may be out, with ext", opened(withOpt(withExt(openOf(0, 4)))), 1 + 3, -2},
		{"an open whose number says another Kid", []impl.SType{seqOf(1, 2), ofInt(1, 1)[0], openOf(0, 3, 4), aBool, anInt}, 1, 9},
		{"an open whose number says none", []impl.SType{seqOf(1, 2), ofInt(7, 7)[0], openOf(0, 3, 4), aBool, anInt}, 1, 9},
		{"an open with ext whose number says a Kid", []impl.SType{seqOf(1, 2), ofInt(0, 0)[0], withExt(openOf(0, 3)), ofBytes(50, 50)[0]}, 31, -2},
	})
}

// lists is count lists of MaxCount each, one in the other, around s.
func lists(count int, s impl.SType) []impl.SType {
	var list []impl.SType
	for i := range count {
		list = append(list, listOf(int64(i+1), impl.MaxCount, impl.MaxCount))
	}
	return append(list, s)
}

func TestGreatSpans(t *testing.T) {
	const most = impl.MaxWhole
	sixth := int64(64000000000000) // 200 to the 6th
	seven := lists(7, ofBytes(1000, 1000)[0])
	none := append([]impl.SType{listOf(1, 0, 0)}, shifted(lists(6, ofBytes(1000, 1000)[0]))...)
	few := append([]impl.SType{listOf(1, 0, 1)}, shifted(lists(6, ofBytes(1000, 1000)[0]))...)
	beside := append([]impl.SType{choiceOf(8, 1)}, shifted(lists(6, ofBytes(1000, 1000)[0]))...)
	beside = append(beside, aBool)
	kept := append([]impl.SType{withExt(choiceOf(1))}, shifted(lists(6, ofBytes(1000, 1000)[0]))...)
	sum := append([]impl.SType{seqOf(1, 1)}, shifted(lists(6, ofInt(0, 255)[0]))...)
	checkSpans(t, []spanCase{
		{"below MaxWhole", lists(6, ofInt(0, 1<<15-1)[0]), 15 * sixth, 15 * sixth},
		{"above MaxWhole", lists(6, ofInt(0, 1<<16-1)[0]), most, most},
		{"far above", seven, most, most},
		{"far above, but of none", none, 0, 0},
		{"far above, or none", few, 1, most},
		{"far above, or a bool", beside, 2, most},
		{"far above, or bytes kept", kept, 32, -2},
		{"two below MaxWhole, and their sum", sum, most, most},
	})
	if fewest, got := impl.Fewest(lists(7, withExt(seqOf())), 0), impl.Most(lists(7, withExt(seqOf())), 0); fewest != most || got != -2 {
		t.Error("with ext within", fewest, got)
	}
	if fewest := impl.Fewest(seven, 4); fewest != 200*200*200*8000 {
		t.Error("a type within", fewest)
	}
}

// A type that is the Kid of very many is looked at once.
func TestSpansOfManyEndSoon(t *testing.T) {
	var list []impl.SType
	for i := int64(1); i < impl.MaxLevels; i++ {
		list = append(list, seqOf(times(i, impl.MaxFields)...))
	}
	list = append(list, aBool)
	count := int64(1)
	for range impl.MaxLevels - 1 {
		count *= impl.MaxFields
	}
	checkSpans(t, []spanCase{{"seqs of seqs", list, count, count}})
	if _, code := impl.UnpackVal(list, 0, nil); code != impl.TShort {
		t.Error("read", code)
	}
}

func TestSpansOfTypesThatAreNone(t *testing.T) {
	list := []impl.SType{seqOf(1, 2, 3), anInt, openOf(0, 4), anOpt, withExt(seqOf())}
	rows := []struct {
		t            int64
		fewest, most int64
	}{
		{math.MinInt64, -1, -1}, {-1, -1, -1}, {0, 11, -2}, {1, 9, 9}, {2, -1, -1}, {3, -1, -1}, {4, 1, -2}, {5, -1, -1}, {math.MaxInt64, -1, -1},
	}
	for _, row := range rows {
		if fewest, most := impl.Fewest(list, row.t), impl.Most(list, row.t); fewest != row.fewest || most != row.most {
			t.Error(row, fewest, most)
		}
	}
	for _, bad := range [][]impl.SType{nil, {aBool, {}}, {anOpt}, {withExt(aBool)}} {
		if fewest, most := impl.Fewest(bad, 0), impl.Most(bad, 0); fewest != -1 || most != -1 {
			t.Error("no schema", bad, fewest, most)
		}
	}
}

// bitCount is how many bits v has: eight of it have as many bytes.
func bitCount(list []impl.SType, v impl.Val) (int64, bool) {
	eight := append([]impl.SType{listOf(1, 8, 8)}, shifted(list)...)
	b, ok := impl.PackVal(eight, 0, kidsOf(v, v, v, v, v, v, v, v))
	return int64(len(b)), ok
}

func TestAnyValueIsUnpacked(t *testing.T) {
	r := rand.New(rand.NewSource(5))
	edges := 0
	for i := range 4000 {
		list := anySchema(r)
		v := anyVal(r, list, 0, 0)
		b, ok := impl.PackVal(list, 0, v)
		if !ok {
			t.Fatal(i, "no bits", list, v)
		}
		if w, code := impl.UnpackVal(list, 0, b); code != 0 || !sameVal(v, w) {
			t.Fatal(i, "not read back", list, v, w, code)
		}
		count, ok := bitCount(list, v)
		if !ok {
			continue
		}
		fewest, most := impl.Fewest(list, 0), impl.Most(list, 0)
		if count < fewest || most != -2 && count > most || int64(len(b)) != (count+7)/8 {
			t.Fatal(i, list, v, "has", count, "bits in", len(b), "bytes, not of", fewest, "to", most)
		}
		if count == fewest || count == most {
			edges++
		}
	}
	if edges < 1000 {
		t.Error("too few at the edges", edges)
	}
}

func TestWhatIsUnpackedIsRight(t *testing.T) {
	r := rand.New(rand.NewSource(6))
	codes := map[int64]int{}
	for i := range 8000 {
		list := anySchema(r)
		b, _ := impl.PackVal(list, 0, anyVal(r, list, 0, 0))
		if r.Intn(4) == 0 {
			b = append(b, byte(r.Intn(3)))
		}
		for range r.Intn(3) {
			if len(b) > 0 {
				b[r.Intn(len(b))] ^= 1 << r.Intn(8)
			}
		}
		v, code := impl.UnpackVal(list, 0, b)
		codes[code]++
		if code != 0 {
			if !noVal(v) {
				t.Fatal(i, "a value with a code", v, code)
			}
			continue
		}
		again, ok := impl.PackVal(list, 0, v)
		if !ok || !bytes.Equal(again, b) || !impl.ValOk(list, 0, v) {
			t.Fatal(i, "read, but written otherwise", list, b, again, v)
		}
	}
	for _, code := range []int64{0, impl.TShort, impl.TTrail, impl.DValue, impl.DForm} {
		if codes[code] < 30 {
			t.Error("too few with the code", code, codes)
		}
	}
}
