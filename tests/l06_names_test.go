package tests

import (
	"bytes"
	"math"
	"math/rand"
	"slices"
	"strings"
	"testing"
	"time"

	"loop.example/g00041/impl"
)

// partsOf is a name whose Parts have the Attrs 1, 2 and so on.
func partsOf(values ...string) impl.Name {
	n := impl.Name{}
	for i, value := range values {
		n.Parts = append(n.Parts, impl.Part{Attr: int64(i + 1), Value: value})
	}
	return n
}

func onePart(attr int64, value string) impl.Name {
	return impl.Name{Parts: []impl.Part{{Attr: attr, Value: value}}}
}

func TestFold(t *testing.T) {
	rows := []struct{ text, want string }{
		{"", ""},
		{" ", ""},
		{"     ", ""},
		{"a", "a"},
		{" a", "a"},
		{"a ", "a"},
		{"   a   ", "a"},
		{"a b", "a b"},
		{"a  b", "a b"},
		{"a    b     c", "a b c"},
		{"  A  b C ", "a b c"},
		{"AMZ", "amz"},
		{"@AZ[", "@az["},
		{"`az{", "`az{"},
		{"09-_.", "09-_."},
		{"\tA\n", "\ta\n"},
		{" \t ", "\t"},
		{"\x00 \x00", "\x00 \x00"},
		{"\xc1\xff\x80", "\xc1\xff\x80"},
		{"ÄÖ", "ÄÖ"},
		{"K\u212a", "k\u212a"},
		{"\u00a0 a \u00a0", "\u00a0 a \u00a0"},
		{strings.Repeat(" ", 5000) + "X" + strings.Repeat(" ", 5000), "x"},
	}
	for _, row := range rows {
		if got := impl.Fold(row.text); got != row.want {
			t.Errorf("Fold %q: got %q, want %q", row.text, got, row.want)
		}
	}
}

func TestFoldOfEveryByte(t *testing.T) {
	for c := 0; c < 256; c++ {
		want := string([]byte{byte(c)})
		if c == 32 {
			want = ""
		}
		if c >= 65 && c <= 90 {
			want = string([]byte{byte(c + 32)})
		}
		if got := impl.Fold(string([]byte{byte(c)})); got != want {
			t.Errorf("byte %d: got %q", c, got)
		}
	}
}

func TestFoldOfAFoldIsItself(t *testing.T) {
	r := rand.New(rand.NewSource(6))
	for range 3000 {
		text := anyText(r, "  aAbBzZ-\x01\xc4", 12)
		once := impl.Fold(text)
		if again := impl.Fold(once); again != once {
			t.Fatalf("%q: %q, then %q", text, once, again)
		}
		words := strings.FieldsFunc(text, func(c rune) bool { return c == ' ' })
		if want := strings.Join(words, " "); len(want) != len(once) {
			t.Fatalf("%q: %q, words %q", text, once, want)
		}
	}
}

func anyText(r *rand.Rand, letters string, most int) string {
	b := make([]byte, r.Intn(most+1))
	for i := range b {
		b[i] = letters[r.Intn(len(letters))]
	}
	return string(b)
}

func TestNameOk(t *testing.T) {
	rows := []struct {
		why  string
		n    impl.Name
		want bool
	}{
		{"no parts", impl.Name{}, true},
		{"parts that are empty", impl.Name{Parts: []impl.Part{}}, true},
		{"MaxParts", partsOf(slices.Repeat([]string{"a"}, 8)...), true},
		{"one part more", partsOf(slices.Repeat([]string{"a"}, 9)...), false},
		{"Attr below 0", onePart(-1, "a"), false},
		{"Attr 0", onePart(0, "a"), false},
		{"Attr 1", onePart(1, "a"), true},
		{"Attr 20", onePart(20, "a"), true},
		{"Attr 21", onePart(21, "a"), false},
		{"the greatest Attr", onePart(math.MaxInt64, "a"), false},
		{"the least Attr", onePart(math.MinInt64, "a"), false},
		{"no Value", onePart(1, ""), false},
		{"a Value of a blank", onePart(1, " "), false},
		{"a Value of blanks", onePart(1, strings.Repeat(" ", 60)), false},
		{"blanks and a letter", onePart(1, strings.Repeat(" ", 59)+"x"), true},
		{"MaxValue bytes", onePart(1, strings.Repeat("x", 60)), true},
		{"one byte more", onePart(1, strings.Repeat("x", 61)), false},
		{"a blank more", onePart(1, strings.Repeat("x", 60)+" "), false},
		{"byte 31", onePart(1, "a\x1f"), false},
		{"byte 32", onePart(1, "a\x20"), true},
		{"byte 126", onePart(1, "a\x7e"), true},
		{"byte 127", onePart(1, "a\x7f"), false},
		{"byte 0", onePart(1, "\x00a"), false},
		{"byte 255", onePart(1, "a\xffb"), false},
		{"letters of two bytes", onePart(1, "ä"), false},
		{"the last part is wrong", partsOf("a", "b", " "), false},
		{"the first part is wrong", partsOf("", "b", "c"), false},
		{"one Attr twice", impl.Name{Parts: []impl.Part{{Attr: 3, Value: "a"}, {Attr: 3, Value: "a"}}}, true},
	}
	for _, row := range rows {
		if got := impl.NameOk(row.n); got != row.want {
			t.Error(row.why, got)
		}
		if got := impl.SameName(row.n, row.n); got != row.want {
			t.Error(row.why, "the same as itself:", got)
		}
		if got := impl.Under(row.n, impl.Name{}); got != row.want {
			t.Error(row.why, "under the empty name:", got)
		}
		if got := impl.Under(row.n, row.n); got != row.want {
			t.Error(row.why, "under itself:", got)
		}
		if got := impl.Under(partsOf("a"), row.n); got && !row.want {
			t.Error(row.why, "a name is under it")
		}
	}
}

func TestNameOkOfEveryByte(t *testing.T) {
	for c := 0; c < 256; c++ {
		value := string([]byte{'a', byte(c), 'b'})
		if got, want := impl.NameOk(onePart(1, value)), c >= 32 && c <= 126; got != want {
			t.Error("byte", c, got)
		}
	}
}

func TestSameNameAndUnder(t *testing.T) {
	rows := []struct {
		why         string
		n, base     impl.Name
		same, under bool
	}{
		{"letters and blanks", partsOf("Acme  Co", "East"), partsOf(" acme CO ", "EAST"), true, true},
		{"a blank that is none", partsOf("acme co"), partsOf("acmeco"), false, false},
		{"another Value", partsOf("a"), partsOf("b"), false, false},
		{"a Value that begins the other", partsOf("ab"), partsOf("a"), false, false},
		{"another Attr", onePart(1, "a"), onePart(2, "a"), false, false},
		{"another order", partsOf("a", "b"), impl.Name{Parts: []impl.Part{{Attr: 2, Value: "b"}, {Attr: 1, Value: "a"}}}, false, false},
		{"one part more", partsOf("a", "b"), partsOf("A"), false, true},
		{"one part less", partsOf("a"), partsOf("a", "b"), false, false},
		{"the end, not the beginning", partsOf("a", "b"), onePart(2, "b"), false, false},
		{"unlike in the last part", partsOf("a", "b", "c"), partsOf("a", "b", "d"), false, false},
		{"unlike in the first part", partsOf("a", "b", "c"), partsOf("x", "b"), false, false},
		{"both empty", impl.Name{}, impl.Name{Parts: []impl.Part{}}, true, true},
		{"the empty one under another", impl.Name{}, partsOf("a"), false, false},
		{"no name behind the base's parts", partsOf("a", "b", ""), partsOf("a"), false, false},
		{"too many parts behind the base's", partsOf(slices.Repeat([]string{"a"}, 9)...), partsOf("a"), false, false},
		{"a base that is no name", partsOf("a", "b"), onePart(1, "a\n"), false, false},
		{"both no name", onePart(0, "a"), onePart(0, "a"), false, false},
		{"eight parts", partsOf(slices.Repeat([]string{"A b"}, 8)...), partsOf(slices.Repeat([]string{"a  B"}, 8)...), true, true},
	}
	for _, row := range rows {
		if got := impl.SameName(row.n, row.base); got != row.same {
			t.Error(row.why, "same:", got)
		}
		if got := impl.SameName(row.base, row.n); got != row.same {
			t.Error(row.why, "same, the other way:", got)
		}
		if got := impl.Under(row.n, row.base); got != row.under {
			t.Error(row.why, "under:", got)
		}
	}
}

// anyName is often one of a few names, written one way or another, and now and then none.
func anyName(r *rand.Rand) impl.Name {
	n := impl.Name{}
	for range r.Intn(4) {
		value := anyText(r, "aA  ", 3)
		if r.Intn(5) > 0 {
			value += "b"
		}
		n.Parts = append(n.Parts, impl.Part{Attr: int64(1 + r.Intn(2)), Value: value})
	}
	return n
}

func TestNamesAreTheSameBothWaysAndOn(t *testing.T) {
	r := rand.New(rand.NewSource(61))
	on, below := 0, 0
	for range 60000 {
		a, b, c := anyName(r), anyName(r), anyName(r)
		if impl.SameName(a, b) != impl.SameName(b, a) {
			t.Fatal("one way only", a, b)
		}
		if impl.SameName(a, b) != (impl.Under(a, b) && impl.Under(b, a)) {
			t.Fatal("the same, but not each under the other", a, b)
		}
		if impl.SameName(a, b) && impl.SameName(b, c) {
			on++
			if !impl.SameName(a, c) {
				t.Fatal("not on", a, b, c)
			}
		}
		if impl.Under(a, b) && impl.Under(b, c) {
			below++
			if !impl.Under(a, c) {
				t.Fatal("not under what that is under", a, b, c)
			}
		}
		if impl.SameName(a, b) && (impl.Under(a, c) != impl.Under(b, c) || impl.Under(c, a) != impl.Under(c, b)) {
			t.Fatal("the same, but under unlike ones", a, b, c)
		}
	}
	if on < 100 || below < 100 {
		t.Error("too few were tried", on, below)
	}
}

// labelsOf is a host of so many labels of one byte.
func labelsOf(count int) string {
	return strings.TrimSuffix(strings.Repeat("a.", count), ".")
}

// hostLong is a host of so many bytes, in labels of at most 20.
func hostLong(size int) string {
	b := bytes.Repeat([]byte{'a'}, size)
	for i := 20; i < size-1; i += 20 {
		b[i] = '.'
	}
	return string(b)
}

func TestHostOk(t *testing.T) {
	twenty := strings.Repeat("a", 20)
	rows := []struct {
		host         string
		plain, loose bool
	}{
		{"a", true, true},
		{"0", true, true},
		{"z9", true, true},
		{"a.b", true, true},
		{"x-1.org", true, true},
		{"a--b", true, true},
		{twenty, true, true},
		{twenty + "a", false, false},
		{"x." + twenty, true, true},
		{"x." + twenty + "a", false, false},
		{"x." + twenty + "a.y", false, false},
		{"", false, false},
		{".", false, false},
		{"a.", false, false},
		{".a", false, false},
		{"a..b", false, false},
		{"a.b.", false, false},
		{".a.b", false, false},
		{"-", false, false},
		{"-a", false, false},
		{"a-", false, false},
		{"b.-a", false, false},
		{"b.a-.c", false, false},
		{"A", false, false},
		{"a.B", false, false},
		{"a b", false, false},
		{"a_b", false, false},
		{"a@b", false, false},
		{"ä", false, false},
		{"a\x00", false, false},
		{" a", false, false},
		{"a ", false, false},
		{hostLong(100), true, true},
		{hostLong(101), false, false},
		{labelsOf(10), true, true},
		{labelsOf(11), false, false},
		{"*", false, false},
		{"*.", false, false},
		{"*.a", false, false},
		{"*.a.", false, false},
		{"*..a", false, false},
		{"*.a.b", false, true},
		{"*.a.b.c", false, true},
		{"*.a.-b", false, false},
		{"*.A.b", false, false},
		{"*.*.a.b", false, false},
		{"*.a.*", false, false},
		{"a.*", false, false},
		{"a.*.b", false, false},
		{"a.b.*", false, false},
		{"*a.b.c", false, false},
		{"a*.b.c", false, false},
		{"**.b.c", false, false},
		{"a.b*.c", false, false},
		{"*." + labelsOf(9), false, true},
		{"*." + labelsOf(10), false, false},
		{"*" + hostLong(100)[20:], false, true},
		{"*." + hostLong(98), false, true},
		{"*." + hostLong(99), false, false},
	}
	for _, row := range rows {
		if got := impl.HostOk(row.host, false); got != row.plain {
			t.Errorf("%q not wild: %v", row.host, got)
		}
		if got := impl.HostOk(row.host, true); got != row.loose {
			t.Errorf("%q wild: %v", row.host, got)
		}
		if got := impl.HostMatch(row.host, row.host); got != row.plain {
			t.Errorf("%q matches itself: %v", row.host, got)
		}
	}
}

func TestHostOkOfEveryByte(t *testing.T) {
	for c := 0; c < 256; c++ {
		middle := string([]byte{'x', byte(c), 'x'})
		letter := c >= 'a' && c <= 'z' || c >= '0' && c <= '9'
		if got, want := impl.HostOk(middle, false), letter || c == '-' || c == '.'; got != want {
			t.Error("in the middle", c, got)
		}
		if got := impl.HostOk(string([]byte{byte(c)}), true); got != letter {
			t.Error("alone", c, got)
		}
	}
}

func TestHostMatch(t *testing.T) {
	rows := []struct {
		pattern, host string
		want          bool
	}{
		{"a.b", "a.b", true},
		{"a", "a", true},
		{"a.b", "a.c", false},
		{"a.b", "x.a.b", false},
		{"x.a.b", "a.b", false},
		{"*.b.c", "x.b.c", true},
		{"*.b.c", "b.b.c", true},
		{"*.b.c", "b.c", false},
		{"*.b.c", "c", false},
		{"*.b.c", "y.x.b.c", false},
		{"*.b.c", "x.c.c", false},
		{"*.b.c", "x.b.d", false},
		{"*.b.c", "xb.c", false},
		{"*.b.c", "x-b.c", false},
		{"*.b.c", "*.b.c", false},
		{"x.b.c", "*.b.c", false},
		{"*.b", "x.b", false},
		{"*", "x", false},
		{"*.b.c", "-.b.c", false},
		{"*.b.c", ".b.c", false},
		{"*.b.c", "X.b.c", false},
		{"*.B.c", "x.B.c", false},
		{"A", "A", false},
		{"a", "A", false},
		{"", "", false},
		{"a.*.c", "a.b.c", false},
		{"x*.b.c", "xy.b.c", false},
		{"y.b.c", "x.b.c", false},
		{"*." + labelsOf(9), labelsOf(10), true},
		{"*." + labelsOf(10), labelsOf(11), false},
		{"*." + hostLong(98), "y." + hostLong(98), true},
		{"*." + hostLong(98), "yy." + hostLong(98), false},
	}
	for _, row := range rows {
		if got := impl.HostMatch(row.pattern, row.host); got != row.want {
			t.Errorf("%q of %q: %v", row.pattern, row.host, got)
		}
	}
}

func hostGen(text string) impl.GenName { return impl.GenName{Kind: impl.GnHost, Text: text} }

func mailGen(text string) impl.GenName { return impl.GenName{Kind: impl.GnMail, Text: text} }

func addrGen(addr int64, bits int64) impl.GenName {
	return impl.GenName{Kind: impl.GnAddr, Addr: addr, Bits: bits}
}

func nameGen(values ...string) impl.GenName {
	return impl.GenName{Kind: impl.GnName, Name: partsOf(values...)}
}

func ofKind(kind int64, g impl.GenName) impl.GenName {
	g.Kind = kind
	return g
}

type genCase struct {
	g         impl.GenName
	gen, base bool
}

func checkGens(t *testing.T, rows []genCase) {
	t.Helper()
	for _, row := range rows {
		if got := impl.GenOk(row.g); got != row.gen {
			t.Error("GenOk", row.g, got)
		}
		if got := impl.BaseOk(row.g); got != row.base {
			t.Error("BaseOk", row.g, got)
		}
	}
}

func TestGensOfHostAndMail(t *testing.T) {
	user := strings.Repeat("u", 20)
	checkGens(t, []genCase{
		{hostGen("a"), true, true},
		{hostGen("a.b"), true, true},
		{hostGen("*.a.b"), true, false},
		{hostGen("*.a"), false, false},
		{hostGen(".a"), false, false},
		{hostGen(""), false, false},
		{hostGen("A"), false, false},
		{hostGen("u@a.b"), false, false},
		{hostGen(hostLong(100)), true, true},
		{hostGen(hostLong(101)), false, false},
		{mailGen("u@a.b"), true, true},
		{mailGen("0@a"), true, true},
		{mailGen("z9a0@a"), true, true},
		{mailGen(user + "@a"), true, true},
		{mailGen(user + "u@a"), false, false},
		{mailGen("@a.b"), false, false},
		{mailGen("u@"), false, false},
		{mailGen("@"), false, false},
		{mailGen(""), false, false},
		{mailGen("."), false, false},
		{mailGen("u-v@a.b"), false, false},
		{mailGen("u.v@a.b"), false, false},
		{mailGen("U@a.b"), false, false},
		{mailGen("u@A.b"), false, false},
		{mailGen("u@@a.b"), false, false},
		{mailGen("u@v@a.b"), false, false},
		{mailGen("u@*.a.b"), false, false},
		{mailGen("u@.a.b"), false, false},
		{mailGen(".u@a.b"), false, false},
		{mailGen("a.b"), false, true},
		{mailGen("a"), false, true},
		{mailGen(".a.b"), false, true},
		{mailGen(".a"), false, true},
		{mailGen("..a"), false, false},
		{mailGen("a."), false, false},
		{mailGen("*.a.b"), false, false},
		{mailGen(".*.a.b"), false, false},
		{mailGen("u@" + hostLong(100)), true, true},
		{mailGen("u@" + hostLong(101)), false, false},
		{mailGen(hostLong(100)), false, true},
		{mailGen(hostLong(101)), false, false},
		{mailGen("." + hostLong(100)), false, true},
		{mailGen("." + hostLong(101)), false, false},
		{mailGen("." + labelsOf(10)), false, true},
	})
}

func TestGensOfAddrAndName(t *testing.T) {
	const top = 1<<32 - 1
	checkGens(t, []genCase{
		{addrGen(0, 0), true, true},
		{addrGen(1, 0), true, false},
		{addrGen(top, 0), true, false},
		{addrGen(top+1, 0), false, false},
		{addrGen(-1, 0), false, false},
		{addrGen(math.MaxInt64, 0), false, false},
		{addrGen(math.MinInt64, 0), false, false},
		{addrGen(5, 32), false, true},
		{addrGen(5, 31), false, false},
		{addrGen(4, 31), false, true},
		{addrGen(top, 32), false, true},
		{addrGen(top, 31), false, false},
		{addrGen(top+1, 32), false, false},
		{addrGen(-1, 32), false, false},
		{addrGen(math.MinInt64, 32), false, false},
		{addrGen(math.MinInt64, 0), false, false},
		{addrGen(0, 33), false, false},
		{addrGen(0, -1), false, false},
		{addrGen(0, math.MaxInt64), false, false},
		{addrGen(0, math.MinInt64), false, false},
		{addrGen(0, 32), false, true},
		{addrGen(10<<24, 8), false, true},
		{addrGen(10<<24, 7), false, true},
		{addrGen(10<<24, 6), false, false},
		{addrGen(10<<24+1<<23, 8), false, false},
		{addrGen(10<<24+1<<23, 9), false, true},
		{addrGen(10<<24+1, 8), false, false},
		{addrGen(1<<31, 1), false, true},
		{addrGen(1<<31, 0), true, false},
		{nameGen("a"), true, true},
		{nameGen("a", "B  c"), true, true},
		{nameGen(), false, true},
		{nameGen(""), false, false},
		{nameGen("a", " "), false, false},
		{nameGen(slices.Repeat([]string{"a"}, 8)...), true, true},
		{nameGen(slices.Repeat([]string{"a"}, 9)...), false, false},
	})
}

func TestGensOfOtherKindsAndOfMoreThanTheKindNames(t *testing.T) {
	n := partsOf("a")
	checkGens(t, []genCase{
		{impl.GenName{}, false, false},
		{ofKind(0, hostGen("a")), false, false},
		{ofKind(5, nameGen("a")), false, false},
		{ofKind(-1, hostGen("a")), false, false},
		{ofKind(math.MaxInt64, hostGen("a")), false, false},
		{ofKind(math.MinInt64, hostGen("a")), false, false},
		{impl.GenName{Kind: impl.GnHost, Text: "a", Addr: 1}, false, false},
		{impl.GenName{Kind: impl.GnHost, Text: "a", Addr: -1}, false, false},
		{impl.GenName{Kind: impl.GnHost, Text: "a", Bits: 1}, false, false},
		{impl.GenName{Kind: impl.GnHost, Text: "a", Name: n}, false, false},
		{impl.GenName{Kind: impl.GnHost, Text: "a", Name: impl.Name{Parts: []impl.Part{}}}, true, true},
		{impl.GenName{Kind: impl.GnMail, Text: "u@a", Addr: 1}, false, false},
		{impl.GenName{Kind: impl.GnMail, Text: "u@a", Bits: 1}, false, false},
		{impl.GenName{Kind: impl.GnMail, Text: "u@a", Name: n}, false, false},
		{impl.GenName{Kind: impl.GnAddr, Text: "a"}, false, false},
		{impl.GenName{Kind: impl.GnAddr, Name: n}, false, false},
		{impl.GenName{Kind: impl.GnName, Name: n, Text: "a"}, false, false},
		{impl.GenName{Kind: impl.GnName, Name: n, Addr: 1}, false, false},
		{impl.GenName{Kind: impl.GnName, Name: n, Bits: 1}, false, false},
	})
}

func TestWithinOfEachKind(t *testing.T) {
	rows := []struct {
		g, base impl.GenName
		want    bool
	}{
		{hostGen("b.c"), hostGen("b.c"), true},
		{hostGen("a.b.c"), hostGen("b.c"), true},
		{hostGen("x.a.b.c"), hostGen("b.c"), true},
		{hostGen("a.b.c"), hostGen("c"), true},
		{hostGen("ab.c"), hostGen("b.c"), false},
		{hostGen("c"), hostGen("b.c"), false},
		{hostGen("b.c.d"), hostGen("b.c"), false},
		{hostGen("*.b.c"), hostGen("b.c"), true},
		{hostGen("*.b.c"), hostGen("c"), true},
		{hostGen("*.a.b.c"), hostGen("b.c"), true},
		{hostGen("*.b.c"), hostGen("x.b.c"), false},
		{hostGen("*.b.c"), hostGen("*.b.c"), false},
		{hostGen("*.b.c"), hostGen("d"), false},
		{hostGen("*.bb.c"), hostGen("b.c"), false},
		{hostGen("b.c"), hostGen(".b.c"), false},
		{hostGen("b.c"), hostGen(""), false},
		{hostGen(""), hostGen("b.c"), false},
		{mailGen("u@b.c"), mailGen("u@b.c"), true},
		{mailGen("v@b.c"), mailGen("u@b.c"), false},
		{mailGen("u@b.d"), mailGen("u@b.c"), false},
		{mailGen("u@b.c"), mailGen("b.c"), true},
		{mailGen("b@c"), mailGen("b.c"), false},
		{mailGen("u@x.b.c"), mailGen("b.c"), false},
		{mailGen("u@c"), mailGen("b.c"), false},
		{mailGen("u@x.b.c"), mailGen(".b.c"), true},
		{mailGen("u@y.x.b.c"), mailGen(".b.c"), true},
		{mailGen("u@b.c"), mailGen(".b.c"), false},
		{mailGen("u@xb.c"), mailGen(".b.c"), false},
		{mailGen("u@x.b.d"), mailGen(".b.c"), false},
		{mailGen("u@x.b.c"), mailGen("u@.b.c"), false},
		{mailGen("b.c"), mailGen("b.c"), false},
		{mailGen(".b.c"), mailGen(".b.c"), false},
		{addrGen(10<<24+5, 0), addrGen(10<<24, 8), true},
		{addrGen(10<<24+1<<24-1, 0), addrGen(10<<24, 8), true},
		{addrGen(11<<24, 0), addrGen(10<<24, 8), false},
		{addrGen(10<<24-1, 0), addrGen(10<<24, 8), false},
		{addrGen(11<<24, 0), addrGen(10<<24, 7), true},
		{addrGen(7, 0), addrGen(7, 32), true},
		{addrGen(6, 0), addrGen(7, 32), false},
		{addrGen(1<<32-1, 0), addrGen(0, 0), true},
		{addrGen(1<<32-1, 0), addrGen(1<<31, 1), true},
		{addrGen(1<<31-1, 0), addrGen(1<<31, 1), false},
		{addrGen(10<<24, 8), addrGen(10<<24, 8), false},
		{addrGen(10<<24+1, 0), addrGen(10<<24+1, 8), false},
		{addrGen(1<<32, 0), addrGen(0, 0), false},
		{nameGen("a", "b"), nameGen("A"), true},
		{nameGen("a", "b"), nameGen("A ", " B"), true},
		{nameGen("a", "b"), nameGen(), true},
		{nameGen("a"), nameGen("a", "b"), false},
		{nameGen("a"), nameGen("b"), false},
		{nameGen(), nameGen(), false},
		{nameGen("a", ""), nameGen("a"), false},
		{nameGen("a"), nameGen(""), false},
	}
	for _, row := range rows {
		if got := impl.Within(row.g, row.base); got != row.want {
			t.Error(row.g, "within", row.base, got)
		}
	}
}

func TestWithinOfUnlikeKinds(t *testing.T) {
	rows := []impl.GenName{hostGen("a.b"), mailGen("u@a.b"), mailGen("a.b"), addrGen(0, 0), nameGen("a"), nameGen(), {}, ofKind(5, hostGen("a.b"))}
	for _, g := range rows {
		for _, base := range rows {
			want := g.Kind == base.Kind && impl.GenOk(g) && impl.BaseOk(base)
			if got := impl.Within(g, base); got != want {
				t.Error(g, "within", base, got)
			}
		}
	}
	extra := hostGen("a.b")
	extra.Bits = 3
	if impl.Within(hostGen("a.b"), extra) || impl.Within(extra, hostGen("a.b")) {
		t.Error("what is not named isn't zero")
	}
}

// smallHosts are all hosts of up to so many labels of the two letters.
func smallHosts(labels int) []string {
	list := []string{"a", "b"}
	all := slices.Clone(list)
	for range labels - 1 {
		var longer []string
		for _, host := range list {
			longer = append(longer, "a."+host, "b."+host)
		}
		all = append(all, longer...)
		list = longer
	}
	return all
}

func TestAPatternIsWithinABaseWhenItsHostsAre(t *testing.T) {
	bases := smallHosts(4)
	hosts := append(smallHosts(4), "c.a.b", "c.b.a", "c.a.a", "c.b.b", "c.a.a.b", "c")
	patterns := append(slices.Clone(bases), "c.a.b")
	for _, base := range bases {
		if strings.Contains(base, ".") {
			patterns = append(patterns, "*."+base)
		}
	}
	for _, pattern := range patterns {
		for _, base := range bases {
			matched, inside := 0, 0
			for _, host := range hosts {
				if impl.HostMatch(pattern, host) {
					matched++
					if impl.Within(hostGen(host), hostGen(base)) {
						inside++
					}
				}
			}
			// What has more labels than are tried here is matched by nothing that is.
			if matched == 0 {
				continue
			}
			if got := impl.Within(hostGen(pattern), hostGen(base)); got != (matched == inside) {
				t.Error(pattern, "within", base, got, "of", matched, "hosts", inside)
			}
		}
	}
}

type oidCase struct {
	arcs []int64
	b    []byte
}

func numbers(list ...int64) []byte {
	var b []byte
	for _, n := range list {
		b = append(b, impl.PutNum(n)...)
	}
	return b
}

// arcsLong is an identifier of so many arcs.
func arcsLong(count int) []int64 {
	list := make([]int64, count)
	for i := range list {
		list[i] = int64(i % 3)
	}
	return list
}

func TestOidsAndTheirBytes(t *testing.T) {
	rows := []oidCase{
		{[]int64{0, 0}, []byte{0}},
		{[]int64{0, 39}, []byte{39}},
		{[]int64{1, 0}, []byte{40}},
		{[]int64{1, 39}, []byte{79}},
		{[]int64{2, 0}, []byte{80}},
		{[]int64{2, 39}, []byte{119}},
		{[]int64{2, 40}, []byte{120}},
		{[]int64{2, 47}, []byte{127}},
		{[]int64{2, 48}, []byte{129, 0}},
		{[]int64{2, 1000}, []byte{136, 56}},
		{[]int64{1, 2, 840}, []byte{42, 134, 72}},
		{[]int64{1, 2, 0}, []byte{42, 0}},
		{[]int64{1, 2, 127, 128}, []byte{42, 127, 129, 0}},
		{[]int64{0, 0, 1 << 40}, append([]byte{0}, numbers(1<<40)...)},
		{[]int64{0, 0, 1<<40 - 1, 1 << 40, 0}, append([]byte{0}, numbers(1<<40-1, 1<<40, 0)...)},
		{arcsLong(12), append([]byte{1}, numbers(arcsLong(12)[2:]...)...)},
	}
	for _, row := range rows {
		b, ok := impl.OidBytes(row.arcs)
		if !ok || !bytes.Equal(b, row.b) {
			t.Error("OidBytes", row.arcs, b, ok)
		}
		arcs, ok := impl.OidRead(row.b)
		if !ok || !slices.Equal(arcs, row.arcs) {
			t.Error("OidRead", row.b, arcs, ok)
		}
	}
}

func TestArcsThatAreNoOid(t *testing.T) {
	rows := [][]int64{
		nil, {}, {0}, {2}, {-1, 0}, {3, 0}, {3, 1000}, {0, -1}, {0, 40}, {1, -1}, {1, 40}, {1, 41}, {2, -1}, {2, 1001},
		{0, 0, -1}, {0, 0, 1<<40 + 1}, {0, 0, 1, -1}, {0, 0, 1, 1<<40 + 1, 1}, {2, 5, math.MaxInt64}, {2, 5, math.MinInt64},
		{math.MaxInt64, 0}, {math.MinInt64, 0}, {2, math.MaxInt64}, {2, math.MinInt64}, {1, math.MaxInt64}, arcsLong(13), arcsLong(5000),
	}
	for _, arcs := range rows {
		if b, ok := impl.OidBytes(arcs); ok || len(b) != 0 {
			t.Error(arcs, b, ok)
		}
	}
}

func TestBytesThatAreNoOid(t *testing.T) {
	rows := [][]byte{
		nil, {}, {128}, {129}, {128, 5}, {42, 128}, {42, 129}, {42, 128, 1}, {42, 5, 128}, {42, 5, 134}, {42, 134, 72, 255},
		numbers(1081), numbers(1081, 5), numbers(math.MaxInt64), numbers(42, 1<<40+1), numbers(42, 5, 1<<40+1), numbers(42, 1<<40+1, 5),
		numbers(42, math.MaxInt64), append([]byte{1}, numbers(arcsLong(13)[2:]...)...), make([]byte, 12), make([]byte, 70000),
		bytes.Repeat([]byte{255}, 9), append([]byte{42}, bytes.Repeat([]byte{255}, 20)...),
		{129, 128, 128, 128, 128, 128, 128, 128, 128, 0}, {42, 129, 128, 128, 128, 128, 128, 128, 128, 128, 0},
	}
	for _, b := range rows {
		if arcs, ok := impl.OidRead(b); ok || len(arcs) != 0 {
			t.Error(b, arcs, ok)
		}
	}
	if arcs, ok := impl.OidRead(make([]byte, 11)); !ok || len(arcs) != 12 {
		t.Error("eleven numbers", arcs, ok)
	}
}

func TestOidsAreReadBack(t *testing.T) {
	r := rand.New(rand.NewSource(66))
	for range 3000 {
		arcs := []int64{r.Int63n(3), r.Int63n(40)}
		if arcs[0] == 2 {
			arcs[1] = r.Int63n(1001)
		}
		for range r.Intn(11) {
			arcs = append(arcs, r.Int63n(1<<(1+r.Intn(40))+1))
		}
		b, ok := impl.OidBytes(arcs)
		if !ok {
			t.Fatal(arcs)
		}
		if back, ok := impl.OidRead(b); !ok || !slices.Equal(back, arcs) {
			t.Fatal(arcs, back, ok)
		}
		b[r.Intn(len(b))] ^= byte(1 << r.Intn(8))
		b = b[:r.Intn(len(b)+1)]
		if back, ok := impl.OidRead(b); ok {
			if other, ok := impl.OidBytes(back); !ok || !bytes.Equal(other, b) {
				t.Fatal("read, but not written so", b, back, other, ok)
			}
		}
	}
}

const timeLayout = "2006-01-02 15:04:05"

func checkTime(t *testing.T, n int64, want string) {
	t.Helper()
	if text, ok := impl.TimeText(n); !ok || text != want {
		t.Fatal("TimeText", n, text, ok, "want", want)
	}
	if back, ok := impl.TimeRead(want); !ok || back != n {
		t.Fatal("TimeRead", want, back, ok, "want", n)
	}
}

func TestTimesThatAreTold(t *testing.T) {
	rows := []struct {
		n    int64
		text string
	}{
		{0, "1970-01-01 00:00:00"},
		{1, "1970-01-01 00:00:01"},
		{59, "1970-01-01 00:00:59"},
		{60, "1970-01-01 00:01:00"},
		{3599, "1970-01-01 00:59:59"},
		{3600, "1970-01-01 01:00:00"},
		{86399, "1970-01-01 23:59:59"},
		{86400, "1970-01-02 00:00:00"},
		{31 * 86400, "1970-02-01 00:00:00"},
		{59*86400 - 1, "1970-02-28 23:59:59"},
		{59 * 86400, "1970-03-01 00:00:00"},
		{365*86400 - 1, "1970-12-31 23:59:59"},
		{365 * 86400, "1971-01-01 00:00:00"},
		{68169600, "1972-02-29 00:00:00"},
		{951782400, "2000-02-29 00:00:00"},
		{951868800, "2000-03-01 00:00:00"},
		{4107542399, "2100-02-28 23:59:59"},
		{4107542400, "2100-03-01 00:00:00"},
		{impl.MaxTime, "9999-12-31 23:59:59"},
	}
	for _, row := range rows {
		checkTime(t, row.n, row.text)
	}
}

func TestTimesOfEveryDay(t *testing.T) {
	last := ""
	for day := int64(0); day <= impl.MaxTime/86400; day++ {
		n := day*86400 + day*7919%86400
		checkTime(t, n, time.Unix(n, 0).UTC().Format(timeLayout))
		text, _ := impl.TimeText(n)
		if text <= last {
			t.Fatal("the later time has the lesser text", last, text)
		}
		last = text
	}
}

func TestTheLaterTimeHasTheGreaterText(t *testing.T) {
	r := rand.New(rand.NewSource(67))
	for range 5000 {
		a, b := r.Int63n(impl.MaxTime+1), r.Int63n(impl.MaxTime+1)
		if r.Intn(2) == 0 {
			b = min(a+r.Int63n(1<<(1+r.Intn(20))), impl.MaxTime)
		}
		one, okOne := impl.TimeText(a)
		two, okTwo := impl.TimeText(b)
		if !okOne || !okTwo || (a < b) != (one < two) || (a == b) != (one == two) {
			t.Fatal(a, b, one, two)
		}
	}
}

func TestNumbersThatAreNoTime(t *testing.T) {
	for _, n := range []int64{-1, -86400, impl.MaxTime + 1, math.MaxInt64, math.MinInt64} {
		if text, ok := impl.TimeText(n); ok || text != "" {
			t.Error(n, text, ok)
		}
	}
}

func TestTextsThatAreNoTime(t *testing.T) {
	rows := []string{
		"", "1970", "1970-01-01", "1970-01-01 00:00:0", "1970-01-01 00:00:000", "1970-01-01 00:00:00 ", " 1970-01-01 00:00:00",
		"11970-01-01 00:00:00", "10000-01-01 00:00:00", "970-01-01 00:00:00",
		"1969-12-31 23:59:59", "1900-02-29 00:00:00", "1900-02-28 00:00:00", "0000-01-01 00:00:00", "1968-02-29 00:00:00",
		"1970-00-01 00:00:00", "1970-13-01 00:00:00", "1970-99-01 00:00:00", "1970-01-00 00:00:00", "1970-01-32 00:00:00",
		"1970-02-29 00:00:00", "2000-02-30 00:00:00", "2100-02-29 00:00:00", "2001-02-29 00:00:00", "9999-02-29 00:00:00", "9900-02-29 00:00:00",
		"1970-04-31 00:00:00", "1970-06-31 00:00:00", "1970-09-31 00:00:00", "1970-11-31 00:00:00", "1970-12-32 00:00:00",
		"1970-01-01 24:00:00", "1970-01-01 99:00:00", "1970-01-01 00:60:00", "1970-01-01 00:00:60", "1970-01-01 00:00:99",
		"1970-01-01T00:00:00", "1970/01/01 00:00:00", "1970-01-01 00.00.00", "1970-01-01-00:00:00", "1970-01-01 00:00-00", "1970:01-01 00:00:00",
		"1970-1-001 00:00:00", "1970-01-01 0:000:00", "+970-01-01 00:00:00", "-970-01-01 00:00:00", "1970--1-01 00:00:00", "1970-+1-01 00:00:00",
		"1970- 1-01 00:00:00", "1970-01-01 00:00:0x", "1970-01-01 00:00:-1", "1970-01-01 0a:00:00", "197a-01-01 00:00:00", "1970-01-01\x0000:00:00",
		"1970-01-01 00:00:\xff0", "１970-01-01 00:00", strings.Repeat("0", 19), strings.Repeat("-", 19), strings.Repeat("1970-01-01 00:00:00", 2), strings.Repeat("9", 5000),
	}
	for _, text := range rows {
		if n, ok := impl.TimeRead(text); ok || n != 0 {
			t.Errorf("%q: %d %v", text, n, ok)
		}
	}
}

func TestEveryMonthHasItsDays(t *testing.T) {
	for _, year := range []int{1970, 1972, 2000, 2004, 2100, 2400, 9996, 9999} {
		for month := 0; month <= 13; month++ {
			for day := 0; day <= 32; day++ {
				when := time.Date(year, time.Month(month), day, 5, 6, 7, 0, time.UTC)
				right := when.Year() == year && int(when.Month()) == month && when.Day() == day
				text := digitsOf(year, 4) + "-" + digitsOf(month, 2) + "-" + digitsOf(day, 2) + " 05:06:07"
				n, ok := impl.TimeRead(text)
				if ok != right || ok && n != when.Unix() || !ok && n != 0 {
					t.Fatal(text, n, ok)
				}
			}
		}
	}
}

// digitsOf is a number in so many digits.
func digitsOf(n int, count int) string {
	out := ""
	for range count {
		out = string(rune('0'+n%10)) + out
		n /= 10
	}
	return out
}

func TestOneTurnedByteOfATime(t *testing.T) {
	for _, was := range []string{"2000-02-29 23:59:59", "1970-01-01 00:00:00", "2024-11-30 12:34:56"} {
		for at := range was {
			for c := 0; c < 256; c++ {
				turned := []byte(was)
				turned[at] = byte(c)
				n, ok := impl.TimeRead(string(turned))
				when, err := time.Parse(timeLayout, string(turned))
				right := err == nil && when.Year() >= 1970 && when.Format(timeLayout) == string(turned)
				if ok != right || ok && n != when.Unix() {
					t.Fatalf("%q: %d %v", turned, n, ok)
				}
			}
		}
	}
}
