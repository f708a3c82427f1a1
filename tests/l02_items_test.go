package tests

import (
	"bytes"
	"math"
	"math/rand"
	"testing"

	"loop.example/g00041/impl"
)

func TestItemRightOrNot(t *testing.T) {
	leaf := impl.Item{Tag: 4, Body: []byte{1}}
	rows := []struct {
		name string
		x    impl.Item
		ok   bool
	}{
		{"the zero value", impl.Item{}, false},
		{"class 0, tag 0, Cons", impl.Item{Cons: true}, false},
		{"class 0, tag 1", impl.Item{Tag: 1}, true},
		{"class 1, tag 0", impl.Item{Class: 1}, true},
		{"class 3", impl.Item{Class: 3, Tag: 5}, true},
		{"class 4", impl.Item{Class: 4, Tag: 5}, false},
		{"class below 0", impl.Item{Class: -1, Tag: 5}, false},
		{"a class that wraps to 1", impl.Item{Class: 1<<32 + 1, Tag: 5}, false},
		{"the greatest tag", impl.Item{Tag: impl.MaxTag}, true},
		{"one above it", impl.Item{Tag: impl.MaxTag + 1}, false},
		{"the greatest number as tag", impl.Item{Tag: math.MaxInt64}, false},
		{"tag below 0", impl.Item{Class: 1, Tag: -1}, false},
		{"Cons without Kids", impl.Item{Tag: 16, Cons: true}, true},
		{"Cons with a Body", impl.Item{Tag: 16, Cons: true, Body: []byte{1}}, false},
		{"Cons with an empty Body", impl.Item{Tag: 16, Cons: true, Body: []byte{}}, true},
		{"Cons with Kids and a Body", impl.Item{Tag: 16, Cons: true, Body: []byte{1}, Kids: []impl.Item{leaf}}, false},
		{"Kids without Cons", impl.Item{Tag: 16, Kids: []impl.Item{leaf}}, false},
		{"no Kids without Cons", impl.Item{Tag: 16, Kids: []impl.Item{}}, true},
		{"a Kid that is not right", impl.Item{Tag: 16, Cons: true, Kids: []impl.Item{leaf, {}}}, false},
		{"as deep as may be", nested(impl.MaxDeep), true},
		{"one deeper", nested(impl.MaxDeep + 1), false},
	}
	for _, row := range rows {
		b, ok := impl.ItemBytes(row.x)
		if ok != row.ok || impl.ItemOk(row.x) != row.ok || !ok && len(b) != 0 {
			t.Error(row.name, "got", b, ok, impl.ItemOk(row.x))
		}
	}
}

func TestDeepestMayBeConsWithoutKids(t *testing.T) {
	x := impl.Item{Tag: 16, Cons: true}
	for range impl.MaxDeep - 1 {
		x = impl.Item{Tag: 16, Cons: true, Kids: []impl.Item{x}}
	}
	if !impl.ItemOk(x) {
		t.Error("12 deep")
	}
	if impl.ItemOk(impl.Item{Tag: 16, Cons: true, Kids: []impl.Item{x}}) {
		t.Error("13 deep")
	}
}

func TestItemBytesForms(t *testing.T) {
	rows := []struct {
		x    impl.Item
		want []byte
	}{
		{impl.Item{Tag: 1}, []byte{1, 0}},
		{impl.Item{Class: 1}, []byte{64, 0}},
		{impl.Item{Tag: 30, Body: []byte{9}}, []byte{30, 1, 9}},
		{impl.Item{Tag: 31}, []byte{31, 31, 0}},
		{impl.Item{Class: 1, Tag: 127}, []byte{95, 127, 0}},
		{impl.Item{Class: 2, Tag: 128}, []byte{159, 129, 0, 0}},
		{impl.Item{Class: 3, Tag: impl.MaxTag, Cons: true}, []byte{255, 255, 255, 255, 127, 0}},
		{impl.Item{Tag: 16, Cons: true}, []byte{48, 0}},
		{impl.Item{Class: 2, Tag: 3, Cons: true, Kids: []impl.Item{{Tag: 1, Body: []byte{255}}, {Tag: 2}}}, []byte{163, 5, 1, 1, 255, 2, 0}},
	}
	for _, row := range rows {
		if got, ok := impl.ItemBytes(row.x); !ok || !bytes.Equal(got, row.want) {
			t.Error(row.x, "got", got, ok, "want", row.want)
		}
	}
}

func TestLengthForms(t *testing.T) {
	rows := []struct {
		n    int
		head []byte
	}{
		{0, []byte{4, 0}}, {127, []byte{4, 127}}, {128, []byte{4, 129, 128}}, {255, []byte{4, 129, 255}},
		{256, []byte{4, 130, 1, 0}}, {300, []byte{4, 130, 1, 44}}, {19996, []byte{4, 130, 78, 28}},
	}
	for _, row := range rows {
		body := bytes.Repeat([]byte{7}, row.n)
		want := append(bytes.Clone(row.head), body...)
		got, ok := impl.ItemBytes(impl.Item{Tag: 4, Body: body})
		if !ok || !bytes.Equal(got, want) {
			t.Error("so many bytes:", row.n, ok)
		}
	}
}

func TestItemAsLongAsMayBe(t *testing.T) {
	x := impl.Item{Tag: 4, Body: make([]byte, impl.MaxBytes-4)}
	b, ok := impl.ItemBytes(x)
	if !ok || len(b) != impl.MaxBytes {
		t.Fatal("just so long", len(b), ok)
	}
	if y, code, place := impl.ReadItem(b, false); code != 0 || place != 0 || !sameItem(x, y) {
		t.Error("read back", code, place)
	}
	x.Body = make([]byte, impl.MaxBytes-3)
	if impl.ItemOk(x) {
		t.Error("one byte longer")
	}
	if _, code, place := impl.ReadItem(append(b, 0), false); code != impl.TLong || place != 0 {
		t.Error("a byte more, read", code, place)
	}
	kids := impl.Item{Tag: 16, Cons: true, Kids: []impl.Item{{Tag: 4, Body: make([]byte, 9000)}, {Tag: 4, Body: make([]byte, impl.MaxBytes-4-4-9004)}}}
	if b, ok := impl.ItemBytes(kids); !ok || len(b) != impl.MaxBytes {
		t.Error("Kids just so long", len(b), ok)
	}
	kids.Kids[1].Body = append(kids.Kids[1].Body, 0)
	if impl.ItemOk(kids) {
		t.Error("Kids one byte longer")
	}
}

// Kids that stand within themselves, and Kids that stand in very many places, are answered, and soon.
func TestKidsWithoutEnd(t *testing.T) {
	loop := make([]impl.Item, 50)
	for i := range loop {
		loop[i] = impl.Item{Tag: 16, Cons: true, Kids: loop}
	}
	if impl.ItemOk(loop[0]) {
		t.Error("within itself")
	}
	if _, ok := impl.Walk(loop[0], []int64{0, 0}); ok {
		t.Error("walked within itself")
	}
	wide := []impl.Item{{Tag: 4}}
	for range impl.MaxDeep - 1 {
		one := impl.Item{Tag: 16, Cons: true, Kids: wide}
		wide = nil
		for range 1000 {
			wide = append(wide, one)
		}
	}
	if impl.ItemOk(wide[0]) {
		t.Error("too wide")
	}
}

type readRow struct {
	name  string
	b     []byte
	lax   bool
	code  int64
	place int64
}

func checkRows(t *testing.T, rows []readRow) {
	t.Helper()
	for _, row := range rows {
		x, code, place := impl.ReadItem(row.b, row.lax)
		if code != row.code || place != row.place || code != 0 && !noItem(x) {
			t.Error(row.name, row.b, "lax:", row.lax, "got", code, place, "want", row.code, row.place)
		}
		if !row.lax {
			continue
		}
		c, code, place := impl.Canon(row.b)
		if code != row.code || place != row.place || code != 0 && len(c) != 0 {
			t.Error(row.name, "Canon:", row.b, "got", c, code, place)
		}
	}
}

func TestReadTagCodes(t *testing.T) {
	checkRows(t, []readRow{
		{"nothing", nil, false, impl.TShort, 0},
		{"nothing", nil, true, impl.TShort, 0},
		{"no groups", []byte{31}, false, impl.TShort, 1},
		{"groups that lack", []byte{31, 129}, true, impl.TShort, 2},
		{"a first group of 128 that is all", []byte{159, 128}, false, impl.TShort, 2},
		{"a first group of 128 that is all", []byte{159, 128}, true, impl.TShort, 2},
		{"class 0, tag 0", []byte{0, 0}, true, impl.TTag, 0},
		{"class 0, tag 0, Cons", []byte{32, 0}, false, impl.TTag, 0},
		{"class 0, tag 0, alone", []byte{0}, false, impl.TTag, 0},
		{"class 0, tag 0 in a group", []byte{31, 0, 0}, true, impl.TTag, 0},
		{"class 1, tag 0", []byte{64, 0}, false, 0, 0},
		{"class 1, tag 0 in a group", []byte{95, 0, 0}, false, impl.TTag, 0},
		{"class 1, tag 0 in a group", []byte{95, 0, 0}, true, 0, 0},
		{"30 in a group", []byte{95, 30, 0}, false, impl.TTag, 0},
		{"30 in a group", []byte{95, 30, 0}, true, 0, 0},
		{"31", []byte{95, 31, 0}, false, 0, 0},
		{"128 ahead", []byte{95, 128, 31, 0}, false, impl.TTag, 0},
		{"128 ahead", []byte{95, 128, 31, 0}, true, 0, 0},
		{"128 ahead of a long one", []byte{95, 128, 129, 0, 0}, false, impl.TTag, 0},
		{"the greatest", []byte{95, 255, 255, 255, 127, 0}, false, 0, 0},
		{"one above", []byte{95, 129, 128, 128, 128, 0, 0}, false, impl.TTag, 0},
		{"one above", []byte{95, 129, 128, 128, 128, 0, 0}, true, impl.TTag, 0},
		{"one above, groups lack", []byte{95, 129, 128, 128, 128}, true, impl.TShort, 5},
		{"one above, length lacks", []byte{95, 129, 128, 128, 128, 0}, true, impl.TTag, 0},
		{"six groups", []byte{95, 128, 128, 128, 128, 128, 5, 0}, true, 0, 0},
		{"six groups, the greatest", []byte{95, 128, 128, 255, 255, 255, 127, 0}, true, 0, 0},
		{"six groups, too great", []byte{95, 129, 128, 128, 128, 128, 0, 0}, true, impl.TTag, 0},
		{"six groups, one more lacks", []byte{95, 128, 128, 128, 128, 128, 128}, true, impl.TShort, 7},
		{"seven groups", []byte{95, 128, 128, 128, 128, 128, 128, 5, 0}, true, impl.TTag, 0},
		{"seven groups, the 7th is all", []byte{95, 128, 128, 128, 128, 128, 128, 128}, true, impl.TTag, 0},
		{"seven groups, strictly", []byte{95, 129, 128, 128, 128, 128, 128, 128}, false, impl.TTag, 0},
		{"the tag of a Kid", []byte{48, 4, 4, 0, 0, 0}, false, impl.TTag, 4},
		{"groups of a Kid lack", []byte{48, 2, 31, 129, 1, 1}, false, impl.TShort, 4},
		{"groups of a Kid's 7th", []byte{48, 9, 95, 128, 128, 128, 128, 128, 128, 5, 0}, true, impl.TTag, 2},
	})
}

func TestReadLengthCodes(t *testing.T) {
	full := append([]byte{4, 129, 128}, make([]byte, 128)...)
	checkRows(t, []readRow{
		{"missing", []byte{4}, false, impl.TShort, 1},
		{"missing behind groups", []byte{31, 31}, true, impl.TShort, 2},
		{"missing in a Kid", []byte{48, 1, 4, 0}, true, impl.TShort, 3},
		{"128 strictly", []byte{48, 128, 0, 0}, false, impl.TLen, 1},
		{"128 of one that is not Cons", []byte{4, 128, 0, 0}, false, impl.TLen, 1},
		{"128 of one that is not Cons", []byte{4, 128, 0, 0}, true, impl.TLen, 1},
		{"five bytes", []byte{4, 133, 0, 0, 0, 0, 0}, false, impl.TLen, 1},
		{"five bytes", []byte{4, 133, 0, 0, 0, 0, 0}, true, impl.TLen, 1},
		{"five bytes that lack", []byte{48, 133}, true, impl.TLen, 1},
		{"255", []byte{4, 255}, true, impl.TLen, 1},
		{"behind a long tag", []byte{31, 31, 255}, true, impl.TLen, 2},
		{"bytes lack", []byte{4, 129}, false, impl.TShort, 2},
		{"bytes lack, and are needless", []byte{4, 132, 0, 0, 0}, false, impl.TShort, 5},
		{"needless, and the body lacks", []byte{4, 129, 5}, false, impl.TLen, 1},
		{"needless, and the body lacks", []byte{4, 129, 5}, true, impl.TShort, 3},
		{"127 in two", append([]byte{4, 129, 127}, make([]byte, 127)...), false, impl.TLen, 1},
		{"127 in two", append([]byte{4, 129, 127}, make([]byte, 127)...), true, 0, 0},
		{"128 in two", full, false, 0, 0},
		{"128 in three", append([]byte{4, 130, 0, 128}, make([]byte, 128)...), false, impl.TLen, 1},
		{"128 in three", append([]byte{4, 130, 0, 128}, make([]byte, 128)...), true, 0, 0},
		{"256 in three", append([]byte{4, 130, 1, 0}, make([]byte, 256)...), false, 0, 0},
		{"0 in five", []byte{4, 132, 0, 0, 0, 0}, false, impl.TLen, 1},
		{"0 in five", []byte{4, 132, 0, 0, 0, 0}, true, 0, 0},
		{"a great one", []byte{4, 132, 255, 255, 255, 255, 1}, false, impl.TShort, 7},
		{"a great one", []byte{4, 132, 255, 255, 255, 255, 1}, true, impl.TShort, 7},
		{"one byte lacks", full[:130], false, impl.TShort, 130},
		{"a Kid tells more than is around it", []byte{48, 3, 4, 2, 1, 1}, false, impl.TShort, 5},
		{"a Kid's Kid does", []byte{48, 6, 48, 3, 4, 2, 1, 1}, false, impl.TShort, 7},
		{"a Kid's length bytes lack", []byte{48, 3, 4, 130, 1, 0, 0}, false, impl.TShort, 5},
		{"a Kid's length bytes lack, and would be needless", []byte{48, 3, 4, 130, 0, 9, 0}, false, impl.TShort, 5},
		{"a Kid's needless length", []byte{48, 4, 4, 129, 1, 9}, false, impl.TLen, 3},
		{"a Kid's needless length", []byte{48, 4, 4, 129, 1, 9}, true, 0, 0},
		{"the second Kid's", []byte{48, 5, 4, 0, 4, 133, 0}, true, impl.TLen, 5},
	})
}

func TestReadOpenItems(t *testing.T) {
	checkRows(t, []readRow{
		{"empty", []byte{48, 128, 0, 0}, true, 0, 0},
		{"a Kid", []byte{48, 128, 4, 0, 0, 0}, true, 0, 0},
		{"no end", []byte{48, 128}, true, impl.TShort, 2},
		{"no end behind a Kid", []byte{48, 128, 4, 0}, true, impl.TShort, 4},
		{"half an end", []byte{48, 128, 0}, true, impl.TShort, 3},
		{"half an end behind a Kid", []byte{48, 128, 4, 0, 0}, true, impl.TShort, 5},
		{"0 and another", []byte{48, 128, 0, 7}, true, impl.TEnd, 2},
		{"0 and another behind a Kid", []byte{48, 128, 4, 0, 0, 7, 0, 0}, true, impl.TEnd, 4},
		{"open in open", []byte{48, 128, 48, 128, 0, 0, 0, 0}, true, 0, 0},
		{"open in open, one end", []byte{48, 128, 48, 128, 0, 0}, true, impl.TShort, 6},
		{"open in open, an end and a half", []byte{48, 128, 48, 128, 0, 0, 0}, true, impl.TShort, 7},
		{"open in open, the inner ends badly", []byte{48, 128, 48, 128, 0, 9, 0, 0}, true, impl.TEnd, 4},
		{"open in open, the outer ends badly", []byte{48, 128, 48, 128, 0, 0, 0, 9}, true, impl.TEnd, 6},
		{"open in closed", []byte{48, 4, 48, 128, 0, 0}, true, 0, 0},
		{"open in closed, end outside", []byte{48, 2, 48, 128, 0, 0}, true, impl.TShort, 4},
		{"open in closed, half of it outside", []byte{48, 3, 48, 128, 0, 0}, true, impl.TShort, 5},
		{"open in closed, Kid told too long", []byte{48, 6, 48, 128, 4, 3, 0, 0, 9}, true, impl.TShort, 8},
		{"open in closed, strictly", []byte{48, 4, 48, 128, 0, 0}, false, impl.TLen, 3},
		{"closed in open", []byte{48, 128, 48, 2, 4, 0, 0, 0}, true, 0, 0},
		{"closed in open with bytes 0", []byte{48, 128, 48, 2, 0, 0, 0, 0}, true, impl.TTag, 4},
		{"a body of bytes 0 in open", []byte{48, 128, 4, 2, 0, 0, 0, 0}, true, 0, 0},
		{"tag 0 in a group is no end", []byte{48, 128, 31, 0, 0, 0, 0}, true, impl.TTag, 2},
		{"class 0, tag 0, Cons is no end", []byte{48, 128, 32, 0, 0, 0}, true, impl.TTag, 2},
		{"behind the end", []byte{48, 128, 0, 0, 0, 0}, true, impl.TTrail, 4},
		{"behind the outer end", []byte{48, 128, 48, 128, 0, 0, 0, 0, 5}, true, impl.TTrail, 8},
	})
}

func TestReadTrailCodes(t *testing.T) {
	checkRows(t, []readRow{
		{"one byte", []byte{4, 0, 0}, false, impl.TTrail, 2},
		{"one byte", []byte{4, 0, 0}, true, impl.TTrail, 2},
		{"more", []byte{48, 2, 4, 0, 4, 0}, false, impl.TTrail, 4},
		{"behind a body", []byte{4, 1, 9, 9}, false, impl.TTrail, 3},
		{"a Kid is none", []byte{48, 4, 4, 0, 4, 0}, false, 0, 0},
	})
}

func closedNest(count int, inner []byte) []byte {
	out := inner
	for range count {
		out = append([]byte{48, byte(len(out))}, out...)
	}
	return out
}

func TestReadDeepCodes(t *testing.T) {
	opens := bytes.Repeat([]byte{48, 128}, impl.MaxDeep)
	ends := make([]byte, 2*impl.MaxDeep)
	with := func(rows ...[]byte) []byte { return bytes.Join(rows, nil) }
	checkRows(t, []readRow{
		{"just so deep", closedNest(11, []byte{4, 0}), false, 0, 0},
		{"Cons just so deep", closedNest(12, nil), false, 0, 0},
		{"one deeper", closedNest(12, []byte{4, 0}), false, impl.TDeep, 24},
		{"one deeper", closedNest(12, []byte{4, 0}), true, impl.TDeep, 24},
		{"one deeper, and no item", closedNest(12, []byte{0}), false, impl.TDeep, 24},
		{"one deeper, the second Kid", closedNest(10, append([]byte{4, 0}, closedNest(2, []byte{4, 0})...)), false, impl.TDeep, 26},
		{"open just so deep", with(opens, ends), true, 0, 0},
		{"open one deeper", with(opens, []byte{4, 0}, ends), true, impl.TDeep, 24},
		{"open just so deep, no end", opens, true, impl.TShort, 24},
		{"open just so deep, half an end", with(opens, []byte{0}), true, impl.TShort, 25},
		{"open just so deep, a bad end", with(opens, []byte{0, 3}), true, impl.TEnd, 24},
		{"closed one deeper in open", with(opens, []byte{48, 0}, ends), true, impl.TDeep, 24},
	})
	if _, code, place := impl.ReadItem(bytes.Repeat([]byte{48, 128}, 5000), true); code != impl.TDeep || place != 24 {
		t.Error("very deep", code, place)
	}
}

func TestReadLongCodes(t *testing.T) {
	for _, lax := range []bool{false, true} {
		if x, code, place := impl.ReadItem(bytes.Repeat([]byte{255}, impl.MaxBytes+1), lax); code != impl.TLong || place != 0 || !noItem(x) {
			t.Error("one too long", code, place)
		}
		if _, code, place := impl.ReadItem(make([]byte, impl.MaxBytes), lax); code != impl.TTag || place != 0 {
			t.Error("just so long", code, place)
		}
	}
	lax := append([]byte{4, 132, 0, 0, 78, 26}, make([]byte, impl.MaxBytes-6)...)
	if b, code, place := impl.Canon(lax); code != 0 || place != 0 || len(b) != impl.MaxBytes-2 {
		t.Error("a lax one just so long", len(b), code, place)
	}
	open := append(bytes.Repeat([]byte{48, 128}, 12), make([]byte, 24)...)
	pad := append([]byte{48, 130, 78, 28, 4, 130, 77, 236}, make([]byte, 19948)...)
	if b, code, _ := impl.Canon(append(pad, open[2:len(open)-2]...)); code != 0 || !bytes.Equal(b[len(b)-2:], []byte{48, 0}) {
		t.Error("open ones in one just so long", len(b), code)
	}
}

func TestItemsReadBack(t *testing.T) {
	r := rand.New(rand.NewSource(2))
	for range 3000 {
		x := anyItem(r, 5)
		b, ok := impl.ItemBytes(x)
		if !ok {
			continue
		}
		for _, lax := range []bool{false, true} {
			if y, code, place := impl.ReadItem(b, lax); code != 0 || place != 0 || !sameItem(x, y) {
				t.Fatal(b, "lax:", lax, "got", y, code, place)
			}
		}
		if c, code, place := impl.Canon(b); code != 0 || place != 0 || !bytes.Equal(b, c) {
			t.Fatal(b, "its canon is", c, code, place)
		}
	}
}

func TestLaxFormsHaveOneCanon(t *testing.T) {
	r := rand.New(rand.NewSource(3))
	done := 0
	for range 3000 {
		x := anyItem(r, 5)
		b := laxBytes(r, copyItem(x))
		strict, ok := impl.ItemBytes(x)
		if !ok || len(b) > impl.MaxBytes {
			continue
		}
		done++
		y, code, place := impl.ReadItem(b, true)
		if code != 0 || place != 0 || !sameItem(x, y) {
			t.Fatal(b, "got", y, code, place)
		}
		if c, code, place := impl.Canon(b); code != 0 || place != 0 || !bytes.Equal(c, strict) {
			t.Fatal(b, "its canon is", c, code, place)
		}
		if _, code, _ := impl.ReadItem(b, false); (code == 0) != bytes.Equal(b, strict) {
			t.Fatal(b, "read strictly", code)
		}
	}
	if done < 1000 {
		t.Error("too few", done)
	}
}

func TestBeginningsAreTooShort(t *testing.T) {
	r := rand.New(rand.NewSource(4))
	for range 400 {
		x := anyItem(r, 4)
		strict, ok := impl.ItemBytes(x)
		lax := laxBytes(r, copyItem(x))
		if !ok || len(lax) > impl.MaxBytes {
			continue
		}
		for cut := range strict {
			if y, code, place := impl.ReadItem(strict[:cut], false); code != impl.TShort || place != int64(cut) || !noItem(y) {
				t.Fatal(strict[:cut], "got", code, place)
			}
		}
		for cut := range lax {
			if y, code, place := impl.ReadItem(lax[:cut], true); code != impl.TShort || place != int64(cut) || !noItem(y) {
				t.Fatal(lax[:cut], "lax, got", code, place)
			}
		}
	}
}

// Every short row of bytes that matter: what is read strictly is its own form, what is read
// laxly has a canon that is read strictly as the same item.
func TestEveryShortRow(t *testing.T) {
	letters := []byte{0, 1, 2, 4, 31, 48, 95, 128, 129, 255}
	var row []byte
	var each func(left int)
	each = func(left int) {
		checkShortRow(t, row)
		if left == 0 || t.Failed() {
			return
		}
		for _, letter := range letters {
			row = append(row, letter)
			each(left - 1)
			row = row[:len(row)-1]
		}
	}
	each(5)
}

func checkShortRow(t *testing.T, row []byte) {
	x, code, place := impl.ReadItem(row, false)
	if place < 0 || place > int64(len(row)) || code < 0 || code > impl.TLong {
		t.Error(row, "strictly:", code, place)
	}
	if b, ok := impl.ItemBytes(x); ok != (code == 0) || ok && !bytes.Equal(b, row) {
		t.Error(row, "strictly:", code, "written as", b, ok)
	}
	y, laxCode, laxPlace := impl.ReadItem(row, true)
	if laxPlace < 0 || laxPlace > int64(len(row)) || code == 0 && (laxCode != 0 || !sameItem(x, y)) {
		t.Error(row, "laxly:", laxCode, laxPlace)
	}
	canon, canonCode, canonPlace := impl.Canon(row)
	if canonCode != laxCode || canonPlace != laxPlace {
		t.Error(row, "canon:", canonCode, canonPlace)
	}
	if laxCode != 0 {
		return
	}
	if z, code, _ := impl.ReadItem(canon, false); code != 0 || !sameItem(y, z) {
		t.Error(row, "canon:", canon, "read", code)
	}
	if _, code, place := impl.ReadItem(append(bytes.Clone(row), 0), true); code != impl.TTrail || place != int64(len(row)) {
		t.Error(row, "and a byte:", code, place)
	}
}

func TestWalkPaths(t *testing.T) {
	deep := impl.Item{Class: 1, Tag: 9, Cons: true, Kids: []impl.Item{{Tag: 2, Body: []byte{3}}, {Tag: 4, Body: []byte{5, 6}}}}
	x := impl.Item{Tag: 16, Cons: true, Kids: []impl.Item{{Tag: 1}, deep, {Tag: 17, Cons: true}}}
	rows := []struct {
		path []int64
		want impl.Item
		ok   bool
	}{
		{nil, x, true},
		{[]int64{0}, x.Kids[0], true},
		{[]int64{1}, deep, true},
		{[]int64{1, 1}, deep.Kids[1], true},
		{[]int64{2}, x.Kids[2], true},
		{[]int64{3}, impl.Item{}, false},
		{[]int64{-1}, impl.Item{}, false},
		{[]int64{math.MaxInt64}, impl.Item{}, false},
		{[]int64{math.MinInt64}, impl.Item{}, false},
		{[]int64{1 << 32}, impl.Item{}, false},
		{[]int64{0, 0}, impl.Item{}, false},
		{[]int64{1, 2}, impl.Item{}, false},
		{[]int64{1, 1, 0}, impl.Item{}, false},
		{[]int64{2, 0}, impl.Item{}, false},
	}
	for _, row := range rows {
		if y, ok := impl.Walk(x, row.path); ok != row.ok || !sameItem(y, row.want) {
			t.Error(row.path, "got", y, ok)
		}
	}
	if y, ok := impl.Walk(nested(impl.MaxDeep), make([]int64, impl.MaxDeep-1)); !ok || y.Tag != 4 {
		t.Error("to the deepest", y, ok)
	}
}

func TestWalkWhatIsNotRight(t *testing.T) {
	bad := impl.Item{Tag: 16, Cons: true, Kids: []impl.Item{{Tag: 1}, {}}}
	for _, x := range []impl.Item{{}, bad, nested(impl.MaxDeep + 1), {Tag: 4, Kids: []impl.Item{{Tag: 1}}}} {
		for _, path := range [][]int64{nil, {0}} {
			if y, ok := impl.Walk(x, path); ok || !noItem(y) {
				t.Error(x, path, "got", y, ok)
			}
		}
	}
}
