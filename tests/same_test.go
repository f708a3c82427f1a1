package tests

import (
	"bytes"
	"math/rand"
	"reflect"
	"slices"
	"strings"
	"testing"

	"loop.example/g00041/impl"
)

// roomy is b in memory of its own with spare room behind it, and all of that memory.
func roomy(b []byte) ([]byte, []byte) {
	all := bytes.Repeat([]byte{170}, len(b)+40)
	copy(all, b)
	return all[:len(b)], all
}

// spoil turns every byte of a list and of the spare room behind it.
func spoil(b []byte) {
	b = b[:cap(b)]
	for i := range b {
		b[i] ^= 255
	}
}

// bytesCall holds one call of a byte list against promise 26: the same answer twice, the
// argument and the room behind it as they were, no memory shared either way.
func bytesCall(t *testing.T, name string, arg []byte, call func([]byte) []byte) {
	t.Helper()
	in, all := roomy(arg)
	before := bytes.Clone(all)
	first := call(in)
	want := bytes.Clone(first)
	if second := call(in); !bytes.Equal(first, second) {
		t.Error(name, arg, "answers unlike", first, second)
	}
	if !bytes.Equal(all, before) {
		t.Error(name, arg, "wrote into its argument")
	}
	spoil(first)
	if !bytes.Equal(all, before) {
		t.Error(name, arg, "answers memory of its argument")
	}
	again := call(in)
	if !bytes.Equal(again, want) {
		t.Error(name, arg, "answers memory that it keeps")
	}
	spoil(all)
	if !bytes.Equal(again, want) {
		t.Error(name, arg, "keeps to its argument's memory")
	}
}

func TestBytesStayAsTheyWere(t *testing.T) {
	rows := [][]byte{{}, {5}, {129, 0}, {128}, {4, 1, 9}, {48, 128, 4, 1, 7, 0, 0}, {48, 128, 31, 128, 5, 129, 1, 7, 0, 0}, {48, 3, 2, 1, 5}, {4, 0, 1}}
	for _, row := range rows {
		bytesCall(t, "Xor over nothing", row, func(b []byte) []byte { return impl.Xor(b, nil) })
		bytesCall(t, "Xor over", row, func(b []byte) []byte { return impl.Xor(b, []byte{1, 2}) })
		bytesCall(t, "Xor under", row, func(b []byte) []byte { return impl.Xor([]byte{1, 2, 3}, b) })
		bytesCall(t, "Xor of itself", row, func(b []byte) []byte { return impl.Xor(b, b) })
		bytesCall(t, "HexText", row, func(b []byte) []byte { return []byte(impl.HexText(b)) })
		bytesCall(t, "Hash", row, func(b []byte) []byte { return impl.PutNum(int64(impl.Hash(b) >> 1)) })
		bytesCall(t, "Canon", row, func(b []byte) []byte { c, _, _ := impl.Canon(b); return c })
		bytesCall(t, "ItemBytes", row, func(b []byte) []byte { c, _ := impl.ItemBytes(impl.Item{Tag: 4, Body: b}); return c })
		bytesCall(t, "Walk", row, func(b []byte) []byte { x, _ := impl.Walk(impl.Item{Tag: 4, Body: b}, nil); return x.Body })
		bytesCall(t, "GetNum", row, func(b []byte) []byte {
			n, at, code := impl.GetNum(b, 0)
			return append(impl.PutNum(n), impl.PutNum(1000*at+code)...)
		})
		bytesCall(t, "ReadItem", row, func(b []byte) []byte {
			x, code, place := impl.ReadItem(b, true)
			return append(everyBody(x), byte(code), byte(place))
		})
	}
}

func everyBody(x impl.Item) []byte {
	out := bytes.Clone(x.Body)
	for _, kid := range x.Kids {
		out = append(out, everyBody(kid)...)
	}
	return out
}

func TestAnswersAreNewEachTime(t *testing.T) {
	for _, n := range []int64{-1, 0, 127, 128, 1 << 40} {
		a := impl.PutNum(n)
		want := bytes.Clone(a)
		spoil(a)
		if b := impl.PutNum(n); !bytes.Equal(b, want) {
			t.Error("PutNum", n, b)
		}
	}
	a, _ := impl.HexRead("00ff")
	spoil(a)
	if b, ok := impl.HexRead("00ff"); !ok || !bytes.Equal(b, []byte{0, 255}) {
		t.Error("HexRead", b, ok)
	}
}

func TestPartsStayAsTheyWere(t *testing.T) {
	one, oneAll := roomy([]byte{1, 2})
	two, twoAll := roomy(nil)
	parts := [][]byte{one, two, one}[:2]
	was := impl.HashAll(parts)
	if impl.HashAll(parts) != was {
		t.Error("two answers")
	}
	_, freshOne := roomy([]byte{1, 2})
	_, freshTwo := roomy(nil)
	if !bytes.Equal(oneAll, freshOne) || !bytes.Equal(twoAll, freshTwo) || !bytes.Equal(parts[:3][2], []byte{1, 2}) || len(parts[1]) != 0 {
		t.Error("HashAll wrote into its parts")
	}
}

// roomyItem is an item whose lists all have spare room, with something told in it.
func roomyItem() impl.Item {
	mark := impl.Item{Class: 3, Tag: 77}
	body, _ := roomy([]byte{5, 6, 7})
	inner := []impl.Item{{Tag: 2, Body: body}, mark, mark}[:1]
	kids := []impl.Item{{Tag: 17, Cons: true, Kids: inner}, {Tag: 1}, mark}[:2]
	return impl.Item{Tag: 16, Cons: true, Kids: kids}
}

// roomySame tells whether x is as roomyItem made it, the spare room too.
func roomySame(x impl.Item) bool {
	y := roomyItem()
	in, was := x.Kids[0].Kids, y.Kids[0].Kids
	for i := range was[:3] {
		if !sameItem(in[:3][i], was[:3][i]) {
			return false
		}
	}
	body, wasBody := in[0].Body, was[0].Body
	return sameItem(x, y) && sameItem(x.Kids[:3][2], y.Kids[:3][2]) && bytes.Equal(body[:cap(wasBody)], wasBody[:cap(wasBody)])
}

func spoilItem(x impl.Item) {
	spoil(x.Body)
	for i := range x.Kids {
		spoilItem(x.Kids[i])
	}
	kids := x.Kids[:cap(x.Kids)]
	for i := range kids {
		kids[i] = impl.Item{Class: 2, Tag: 99}
	}
}

func TestItemsStayAsTheyWere(t *testing.T) {
	x := roomyItem()
	calls := []struct {
		name string
		call func()
	}{
		{"ItemOk", func() { impl.ItemOk(x) }},
		{"ItemBytes", func() { b, _ := impl.ItemBytes(x); spoil(b) }},
		{"Walk to itself", func() { y, _ := impl.Walk(x, nil); spoilItem(y) }},
		{"Walk to a Kid", func() { y, _ := impl.Walk(x, []int64{0}); spoilItem(y) }},
		{"Walk to a Kid's Kid", func() { y, _ := impl.Walk(x, []int64{0, 0}); spoilItem(y) }},
		{"Walk too far", func() { impl.Walk(x, []int64{0, 1}) }},
	}
	for _, row := range calls {
		row.call()
		if !roomySame(x) {
			t.Fatal(row.name, "changed its argument, or answers its memory")
		}
	}
	path := []int64{0, 0, 9}[:2]
	if impl.Walk(x, path); path[:3][2] != 9 || path[0] != 0 || path[1] != 0 {
		t.Error("Walk wrote into the path", path[:3])
	}
}

func bodiesOf(x *impl.Item, list []*impl.Item) []*impl.Item {
	list = append(list, x)
	for i := range x.Kids {
		list = bodiesOf(&x.Kids[i], list)
	}
	return list
}

// apart tells whether no list of x shares memory, or spare room, with another list of x.
func apart(x impl.Item) bool {
	all := bodiesOf(&x, nil)
	for i := range all {
		before := copyItem(x)
		body := all[i].Body
		all[i].Body = nil
		spoil(body)
		other := copyItem(x)
		spoil(body)
		all[i].Body = body
		other = restored(other, i, body)
		if !sameItem(before, other) {
			return false
		}
		kids := all[i].Kids
		_ = append(kids, impl.Item{Tag: 5})
		if !sameItem(before, x) {
			return false
		}
	}
	return true
}

func restored(x impl.Item, i int, body []byte) impl.Item {
	bodiesOf(&x, nil)[i].Body = body
	return x
}

func TestListsOfOneAnswerAreApart(t *testing.T) {
	b := []byte{48, 128, 4, 2, 1, 2, 4, 2, 3, 4, 48, 6, 4, 0, 4, 2, 5, 6, 48, 4, 2, 0, 2, 0, 0, 0}
	x, code, place := impl.ReadItem(b, true)
	if code != 0 {
		t.Fatal(code, place)
	}
	if !apart(x) {
		t.Error("ReadItem: two lists share memory")
	}
	shared := []byte{1, 2}
	twins := impl.Item{Tag: 16, Cons: true, Kids: []impl.Item{{Tag: 4, Body: shared}, {Tag: 4, Body: shared}}}
	if apart(twins) {
		t.Fatal("apart says nothing")
	}
	y, ok := impl.Walk(twins, nil)
	if !ok || !apart(y) {
		t.Error("Walk: two lists share memory", ok)
	}
	kids := []impl.Item{{Tag: 4, Body: shared}}
	row := impl.Item{Tag: 16, Cons: true, Kids: []impl.Item{{Tag: 16, Cons: true, Kids: kids}, {Tag: 16, Cons: true, Kids: kids}}}
	z, ok := impl.Walk(row, nil)
	if !ok {
		t.Fatal("not right")
	}
	z.Kids[0].Kids[0] = impl.Item{Tag: 9}
	if z.Kids[1].Kids[0].Tag != 4 {
		t.Error("Walk: two lists of Kids share memory")
	}
}

func TestReadItemSharesNothing(t *testing.T) {
	for _, lax := range []bool{false, true} {
		in, all := roomy([]byte{48, 9, 4, 2, 1, 2, 48, 3, 4, 1, 7})
		before := bytes.Clone(all)
		x, code, place := impl.ReadItem(in, lax)
		if code != 0 || !bytes.Equal(all, before) {
			t.Fatal("lax:", lax, code, place, "or it wrote into its argument")
		}
		want := copyItem(x)
		spoil(all)
		if !sameItem(x, want) {
			t.Error("lax:", lax, "the item keeps to the argument's memory")
		}
		spoil(all)
		spoilItem(x)
		if !bytes.Equal(all, before) {
			t.Error("lax:", lax, "the item is the argument's memory")
		}
		if y, code, _ := impl.ReadItem(in, lax); code != 0 || !sameItem(y, want) {
			t.Error("lax:", lax, "another answer", y, code)
		}
	}
}

// roomySchema is a schema with every kind, whose lists all have spare room, with something told in it.
func roomySchema() []impl.SType {
	kids := func(list ...int64) []int64 { return append(list, 7, 7, 7)[:len(list)] }
	list := []impl.SType{
		{Kind: impl.SSeq, Ext: true, Kids: kids(1, 2, 3, 4, 5, 6)},
		{Kind: impl.SInt, Lo: 0, Hi: 9},
		{Kind: impl.SOpen, Ext: true, Kids: kids(7, 8)},
		{Kind: impl.SList, Hi: 3, Kids: kids(8)},
		{Kind: impl.SChoice, Ext: true, Kids: kids(7, 8)},
		{Kind: impl.SBool, Opt: true},
		{Kind: impl.SEnum, Hi: 3, Ext: true},
		{Kind: impl.SText, Hi: 5},
		{Kind: impl.SBytes, Hi: 5},
		{Kind: impl.SEnum, Hi: 77},
		{Kind: impl.SEnum, Hi: 78},
	}
	return list[:9]
}

func roomySchemaSame(list []impl.SType) bool {
	was := roomySchema()
	list, was = list[:len(was)+2], was[:len(was)+2]
	for t := range was {
		more := len(was[t].Kids) + 3
		if len(was[t].Kids) > 0 && !slices.Equal(list[t].Kids[:more], was[t].Kids[:more]) {
			return false
		}
	}
	return sameSchema(list, was)
}

// roomyVal is a value of roomySchema's first type, with spare room everywhere.
func roomyVal(number int64) impl.Val {
	vals := func(list ...impl.Val) []impl.Val { return append(list, impl.Val{N: 77}, impl.Val{N: 78})[:len(list)] }
	b := func(list ...byte) []byte { in, _ := roomy(list); return in }
	opened := impl.Val{B: b(4, 1, 9)}
	if number == 1 {
		opened = impl.Val{Kids: vals(impl.Val{B: b(1, 2)})}
	}
	chosen := impl.Val{N: -1, B: b(130, 1, 5)}
	if number == 1 {
		chosen = impl.Val{N: 1, Kids: vals(impl.Val{B: b(3)})}
	}
	v := impl.Val{Kids: vals(impl.Val{N: number}, opened, impl.Val{Kids: vals(impl.Val{B: b(7)}, impl.Val{B: b(8)})}, chosen, impl.Val{Out: true}, impl.Val{N: 5})}
	v.More = [][]byte{b(134, 0), b(135, 1, 7), b(136, 0)}[:2]
	return v
}

func roomyValSame(v impl.Val, number int64) bool {
	was := roomyVal(number)
	return sameVal(everyPlace(v), everyPlace(was))
}

// everyPlace is v with what stands in the spare room of its lists.
func everyPlace(v impl.Val) impl.Val {
	w := impl.Val{Out: v.Out, N: v.N, B: bytes.Clone(v.B[:cap(v.B)])}
	for _, kid := range v.Kids[:cap(v.Kids)] {
		w.Kids = append(w.Kids, everyPlace(kid))
	}
	for _, b := range v.More[:cap(v.More)] {
		w.More = append(w.More, bytes.Clone(b[:cap(b)]))
	}
	return w
}

func spoilVal(v impl.Val) {
	spoil(v.B)
	for _, kid := range v.Kids {
		spoilVal(kid)
	}
	for _, b := range v.More {
		spoil(b)
	}
	kids, more := v.Kids[:cap(v.Kids)], v.More[:cap(v.More)]
	for i := range kids {
		kids[i] = impl.Val{N: 99}
	}
	for i := range more {
		more[i] = []byte{99}
	}
}

func TestSchemasAndValuesStayAsTheyWere(t *testing.T) {
	list := roomySchema()
	for _, number := range []int64{1, 5} {
		v := roomyVal(number)
		calls := []struct {
			name string
			call func()
		}{
			{"SchemaOk", func() { impl.SchemaOk(list) }},
			{"ValOk", func() { impl.ValOk(list, 0, v) }},
			{"EncVal", func() { b, _ := impl.EncVal(list, 0, v); spoil(b) }},
			{"EncVal of bytes", func() { b, _ := impl.EncVal(list, 8, v.Kids[2].Kids[0]); spoil(b) }},
			{"EncVal of a choice", func() { b, _ := impl.EncVal(list, 4, v.Kids[3]); spoil(b) }},
			{"EncVal of what is none", func() { impl.EncVal(list, 3, v) }},
			{"DecVal", func() { b, _ := impl.EncVal(list, 0, v); w, _ := impl.DecVal(list, 0, b, true); spoilVal(w) }},
			{"PackVal", func() { b, _ := impl.PackVal(list, 0, v); spoil(b) }},
			{"PackVal of bytes", func() { b, _ := impl.PackVal(list, 8, v.Kids[2].Kids[0]); spoil(b) }},
			{"PackVal of what is none", func() { impl.PackVal(list, 3, v) }},
			{"UnpackVal", func() { b, _ := impl.PackVal(list, 0, v); w, _ := impl.UnpackVal(list, 0, b); spoilVal(w) }},
			{"Fewest", func() { impl.Fewest(list, 0) }},
			{"Most", func() { impl.Most(list, 0) }},
			{"ShowVal", func() { impl.ShowVal(list, 0, v) }},
			{"ShowVal of what is none", func() { impl.ShowVal(list, 3, v) }},
			{"ReadVal", func() { text, _ := impl.ShowVal(list, 0, v); w, _ := impl.ReadVal(list, 0, text); spoilVal(w) }},
			{"ShowSchema", func() { impl.ShowSchema(list) }},
		}
		if !impl.ValOk(list, 0, v) {
			t.Fatal("no value", number)
		}
		for _, row := range calls {
			row.call()
			if !roomySchemaSame(list) || !roomyValSame(v, number) {
				t.Fatal(row.name, "changed an argument, or answers its memory")
			}
		}
		first, _ := impl.EncVal(list, 0, v)
		if second, _ := impl.EncVal(list, 0, v); !bytes.Equal(first, second) {
			t.Error("EncVal: two answers", first, second)
		}
		first, _ = impl.PackVal(list, 0, v)
		if second, _ := impl.PackVal(list, 0, v); !bytes.Equal(first, second) {
			t.Error("PackVal: two answers", first, second)
		}
		shown, _ := impl.ShowVal(list, 0, v)
		if again, _ := impl.ShowVal(list, 0, v); shown != again {
			t.Error("ShowVal: two answers", shown, again)
		}
	}
}

// readers are the calls that answer a value of roomySchema's first type, with what they
// read written by the call beside them.
func readers() []struct {
	name  string
	write func([]impl.SType, impl.Val) []byte
	read  func([]impl.SType, []byte) (impl.Val, bool)
} {
	return []struct {
		name  string
		write func([]impl.SType, impl.Val) []byte
		read  func([]impl.SType, []byte) (impl.Val, bool)
	}{
		{
			"DecVal",
			func(list []impl.SType, v impl.Val) []byte { b, _ := impl.EncVal(list, 0, v); return b },
			func(list []impl.SType, b []byte) (impl.Val, bool) {
				v, code := impl.DecVal(list, 0, b, false)
				return v, code == 0
			},
		},
		{
			"DecVal, laxly",
			func(list []impl.SType, v impl.Val) []byte { b, _ := impl.EncVal(list, 0, v); return b },
			func(list []impl.SType, b []byte) (impl.Val, bool) {
				v, code := impl.DecVal(list, 0, b, true)
				return v, code == 0
			},
		},
		{
			"UnpackVal",
			func(list []impl.SType, v impl.Val) []byte { b, _ := impl.PackVal(list, 0, v); return b },
			func(list []impl.SType, b []byte) (impl.Val, bool) {
				v, code := impl.UnpackVal(list, 0, b)
				return v, code == 0
			},
		},
		{
			"ReadVal",
			func(list []impl.SType, v impl.Val) []byte { text, _ := impl.ShowVal(list, 0, v); return []byte(text) },
			func(list []impl.SType, b []byte) (impl.Val, bool) { return impl.ReadVal(list, 0, string(b)) },
		},
	}
}

func TestValuesThatAreReadShareNothing(t *testing.T) {
	list := roomySchema()
	for _, call := range readers() {
		for _, number := range []int64{1, 5} {
			in, all := roomy(call.write(list, roomyVal(number)))
			before := bytes.Clone(all)
			v, ok := call.read(list, in)
			if !ok || !sameVal(v, roomyVal(number)) || !bytes.Equal(all, before) {
				t.Fatal(call.name, v, ok, "or it wrote into its argument")
			}
			want := copyVal(v)
			spoil(all)
			if !sameVal(v, want) {
				t.Error(call.name, "the value keeps to the argument's memory")
			}
			spoil(all)
			if !valApart(v) {
				t.Error(call.name, "two lists of the value share memory")
			}
			spoilVal(v)
			if !bytes.Equal(all, before) || !roomySchemaSame(list) {
				t.Error(call.name, "the value is an argument's memory")
			}
			if w, ok := call.read(list, in); !ok || !sameVal(w, want) {
				t.Error(call.name, "another answer", w, ok)
			}
			in[0] ^= 255
			bad := bytes.Clone(all)
			if call.read(list, in); !bytes.Equal(all, bad) || !roomySchemaSame(list) {
				t.Error(call.name, "wrote into bytes that are none of a value")
			}
		}
	}
}

func TestSchemasThatAreReadShareNothing(t *testing.T) {
	text, ok := impl.ShowSchema(roomySchema())
	list, read := impl.ReadSchema(text)
	if !ok || !read || !sameSchema(list, roomySchema()) {
		t.Fatal(text, ok, list, read)
	}
	for i := range list {
		before := copySchema(list)
		_ = append(list[i].Kids, 99)
		kids := list[i].Kids[:cap(list[i].Kids)]
		was := slices.Clone(kids)
		for k := range kids {
			kids[k] = 98
		}
		list[i].Kids, before[i].Kids = nil, nil
		if !sameSchema(list, before) {
			t.Error("the Kids of", i, "share memory with others")
		}
		list[i].Kids = kids[:len(roomySchema()[i].Kids)]
		copy(kids, was)
	}
	for i := range list {
		list[i] = impl.SType{Kind: 99}
	}
	if again, ok := impl.ReadSchema(text); !ok || !sameSchema(again, roomySchema()) {
		t.Error("another answer", again, ok)
	}
}

// byteLists are all lists of bytes of v.
func byteLists(v impl.Val) [][]byte {
	all := append([][]byte{v.B}, v.More...)
	for _, kid := range v.Kids {
		all = append(all, byteLists(kid)...)
	}
	return all
}

// valApart tells whether no byte list of v shares memory, or spare room, with another,
// and no list of Kids has a value's Kids in its spare room.
func valApart(v impl.Val) bool {
	all := byteLists(v)
	for i, b := range all {
		var before [][]byte
		for _, other := range all {
			before = append(before, bytes.Clone(other))
		}
		spoil(b)
		for k, other := range all {
			if k != i && !bytes.Equal(other, before[k]) {
				return false
			}
		}
		spoil(b)
	}
	return kidsApart(v, v)
}

func kidsApart(whole impl.Val, v impl.Val) bool {
	before := copyVal(whole)
	_ = append(v.Kids, impl.Val{N: 99})
	_ = append(v.More, []byte{99})
	if !sameVal(whole, before) {
		return false
	}
	for _, kid := range v.Kids {
		if !kidsApart(whole, kid) {
			return false
		}
	}
	return true
}

// roomyName is a name whose Parts have spare room, with something told in it.
func roomyName(value string) impl.Name {
	mark := impl.Part{Attr: 77, Value: "mark"}
	return impl.Name{Parts: []impl.Part{{Attr: 1, Value: value}, {Attr: 2, Value: " B  b "}, mark, mark}[:2]}
}

// roomyNameSame tells whether n is as roomyName made it, the spare room too.
func roomyNameSame(n impl.Name, value string) bool {
	return len(n.Parts) == 2 && slices.Equal(n.Parts[:4], roomyName(value).Parts[:4])
}

func TestNamesStayAsTheyWere(t *testing.T) {
	for _, value := range []string{"  A  a ", "", "a\n"} {
		n, base := roomyName(value), roomyName(value)
		g := impl.GenName{Kind: impl.GnName, Name: n}
		other := impl.GenName{Kind: impl.GnName, Name: base}
		calls := []struct {
			name string
			call func() bool
		}{
			{"NameOk", func() bool { return impl.NameOk(n) }},
			{"SameName", func() bool { return impl.SameName(n, base) }},
			{"SameName of itself", func() bool { return impl.SameName(n, n) }},
			{"Under", func() bool { return impl.Under(n, base) }},
			{"Under a part of itself", func() bool { return impl.Under(n, impl.Name{Parts: n.Parts[:1]}) }},
			{"GenOk", func() bool { return impl.GenOk(g) }},
			{"BaseOk", func() bool { return impl.BaseOk(g) }},
			{"Within", func() bool { return impl.Within(g, other) }},
			{"Within itself", func() bool { return impl.Within(g, g) }},
		}
		for _, row := range calls {
			if row.call() != row.call() {
				t.Error(row.name, "answers unlike")
			}
			if !roomyNameSame(n, value) || !roomyNameSame(base, value) {
				t.Fatal(row.name, "changed its argument")
			}
		}
	}
}

func TestTextsOfNamesAndTimesAreTheSameEachTime(t *testing.T) {
	for _, text := range []string{"", " A  b ", "a.b", "*.a.b", "u@a.b", "1970-01-02 00:00:00"} {
		readOne, okOne := impl.TimeRead(text)
		readTwo, okTwo := impl.TimeRead(text)
		if readOne != readTwo || okOne != okTwo {
			t.Error("TimeRead", text)
		}
		if impl.Fold(text) != impl.Fold(text) || impl.HostOk(text, true) != impl.HostOk(text, true) || impl.HostMatch(text, "x.a.b") != impl.HostMatch(text, "x.a.b") {
			t.Error("two answers of", text)
		}
	}
	for _, n := range []int64{-1, 0, 951782400, impl.MaxTime, impl.MaxTime + 1} {
		textOne, okOne := impl.TimeText(n)
		textTwo, okTwo := impl.TimeText(n)
		if textOne != textTwo || okOne != okTwo {
			t.Error("TimeText", n)
		}
	}
}

func TestOidsStayAsTheyWere(t *testing.T) {
	for _, row := range [][]byte{{}, {42}, {42, 134, 72}, {136, 56, 1, 2}, {42, 128}, make([]byte, 30)} {
		bytesCall(t, "OidRead", row, func(b []byte) []byte {
			arcs, ok := impl.OidRead(b)
			out := []byte{byte(len(arcs)), 0}
			if ok {
				out[1] = 1
			}
			return append(out, numbers(arcs...)...)
		})
	}
	for _, row := range [][]int64{{1, 2, 840, 99, 98}, {2, 1000, 0, 99, 98}, {1, 40, 3, 99, 98}} {
		was := slices.Clone(row)
		arcs := row[:3]
		first, ok := impl.OidBytes(arcs)
		want := bytes.Clone(first)
		spoil(first)
		second, again := impl.OidBytes(arcs)
		if ok != again || !bytes.Equal(second, want) || !slices.Equal(row, was) {
			t.Error("OidBytes", was, row, want, second)
		}
	}
	first, _ := impl.OidRead([]byte{42, 134, 72})
	for i := range first[:cap(first)] {
		first[:cap(first)][i] = -7
	}
	if second, ok := impl.OidRead([]byte{42, 134, 72}); !ok || !slices.Equal(second, []int64{1, 2, 840}) {
		t.Error("OidRead answers memory that it keeps", second, ok)
	}
}

// roomyList is a list in memory of its own with spare room behind it, and all of that memory.
func roomyList[T any](list []T, mark T) ([]T, []T) {
	all := append(slices.Clone(list), mark, mark, mark)
	return all[:len(list)], all
}

// digestsAsBytes lays digests out one behind the other, so that answers can be held against each other.
func digestsAsBytes(list ...uint64) []byte {
	var out []byte
	for _, digest := range list {
		out = append(out, eight(digest)...)
	}
	return out
}

func flag(is bool) byte {
	if is {
		return 1
	}
	return 0
}

func TestTextsThatAreSignedStayAsTheyWere(t *testing.T) {
	tree := impl.TreeKey{Seed: 3, Height: 2, Next: 1}
	for _, row := range [][]byte{{}, {0}, []byte("hi"), bytes.Repeat([]byte{5}, 300)} {
		sig, _ := impl.Sign(5, row)
		treeSig, _, _ := impl.TreeSign(tree, row)
		root, _ := impl.TreeRoot(tree)
		bytesCall(t, "Challenge", row, func(b []byte) []byte { return impl.PutNum(impl.Challenge(4, 16, b)) })
		bytesCall(t, "Sign", row, func(b []byte) []byte { s, _ := impl.Sign(5, b); return numbers(s.E, s.S) })
		bytesCall(t, "Verify", row, func(b []byte) []byte { return []byte{flag(impl.Verify(1024, b, sig))} })
		bytesCall(t, "BlindAsk", row, func(b []byte) []byte { ask, e, _ := impl.BlindAsk(1024, 16, b, 3, 4); return numbers(ask, e) })
		bytesCall(t, "TreeSign", row, func(b []byte) []byte {
			s, next, code := impl.TreeSign(tree, b)
			return append(numbers(s.Leaf, next.Next, code), digestsAsBytes(append(s.Ends, s.Path...)...)...)
		})
		bytesCall(t, "TreeVerify", row, func(b []byte) []byte { return []byte{flag(impl.TreeVerify(root, 2, b, treeSig))} })
		for _, s := range rightSecrets() {
			p, _ := impl.PubOf(s)
			bytesCall(t, "SignAny", row, func(b []byte) []byte { out, _, _ := impl.SignAny(s, b); return out })
			bytesCall(t, "VerifyAny, the text", row, func(b []byte) []byte {
				out, _, _ := impl.SignAny(s, row)
				return []byte{flag(impl.VerifyAny(p, b, out))}
			})
			out, _, _ := impl.SignAny(s, row)
			for _, given := range [][]byte{out, out[:len(out)-1], append(bytes.Clone(out), 0)} {
				bytesCall(t, "VerifyAny, the signature", given, func(b []byte) []byte { return []byte{flag(impl.VerifyAny(p, row, b))} })
			}
		}
	}
}

func TestNumbersOfSharesStayAsTheyWere(t *testing.T) {
	for _, row := range [][]int64{{}, {3, 1, 2}, {2, 2}, {1, impl.Q}, oneTo(20), oneTo(21)} {
		list, all := roomyList(row, -7)
		before := slices.Clone(all)
		calls := []struct {
			name string
			call func() []int64
		}{
			{"Deal", func() []int64 {
				shares, ok := impl.Deal(5, list, 3)
				out := []int64{int64(flag(ok))}
				for i, s := range shares {
					out = append(out, s.At, s.Value)
					shares[i] = impl.Share{At: -9, Value: -9}
				}
				return out
			}},
			{"Lambda", func() []int64 { n, ok := impl.Lambda(list, 2); return []int64{n, int64(flag(ok))} }},
			{"SignPart", func() []int64 {
				n, ok := impl.SignPart(impl.Share{At: 2, Value: 8}, list, 10, 3)
				return []int64{n, int64(flag(ok))}
			}},
			{"SignJoin", func() []int64 { s, ok := impl.SignJoin(list, 3); return []int64{s.E, s.S, int64(flag(ok))} }},
		}
		for _, call := range calls {
			if first, second := call.call(), call.call(); !slices.Equal(first, second) {
				t.Error(call.name, row, "answers unlike", first, second)
			}
			if !slices.Equal(all, before) {
				t.Fatal(call.name, row, "changed its argument")
			}
		}
	}
}

func TestSharesStayAsTheyWere(t *testing.T) {
	dealt, _ := impl.Deal(5, []int64{7, 8}, 20)
	for _, row := range [][]impl.Share{nil, dealt[3:6], {dealt[5], dealt[2], dealt[9]}, {dealt[1], dealt[1]}, {{At: 1, Value: impl.Q}}, dealt} {
		list, all := roomyList(row, impl.Share{At: -7, Value: -7})
		before := slices.Clone(all)
		first, ok := impl.Restore(list)
		second, again := impl.Restore(list)
		if first != second || ok != again || !slices.Equal(all, before) {
			t.Error("Restore", row, first, ok, second, again, "or it changed its argument")
		}
	}
}

func TestTreeSignaturesStayAsTheyWere(t *testing.T) {
	k := impl.TreeKey{Seed: 3, Height: 3, Next: 5}
	root, _ := impl.TreeRoot(k)
	s, _, _ := impl.TreeSign(k, []byte("m"))
	want := copyTreeSig(s)
	ends, allEnds := roomyList(s.Ends, 77)
	path, allPath := roomyList(s.Path, 77)
	wasEnds, wasPath := slices.Clone(allEnds), slices.Clone(allPath)
	for _, msg := range []string{"m", "n", "m"} {
		if got := impl.TreeVerify(root, 3, []byte(msg), impl.TreeSig{Leaf: 5, Ends: ends, Path: path}); got != (msg == "m") {
			t.Error("TreeVerify", msg, got)
		}
		if !slices.Equal(allEnds, wasEnds) || !slices.Equal(allPath, wasPath) {
			t.Fatal("TreeVerify changed its argument")
		}
	}
	for i := range s.Ends[:cap(s.Ends)] {
		s.Ends[:cap(s.Ends)][i] = 1
	}
	if !slices.Equal(s.Path, want.Path) {
		t.Error("TreeSign: its two lists share memory")
	}
	for i := range s.Path[:cap(s.Path)] {
		s.Path[:cap(s.Path)][i] = 2
	}
	if slices.Contains(s.Ends, 2) {
		t.Error("TreeSign: its two lists share memory")
	}
	if again, _, code := impl.TreeSign(k, []byte("m")); code != 0 || !sameTreeSig(again, want) {
		t.Error("TreeSign answers memory that it keeps", again, code)
	}
}

func TestNumbersOfTheGroupAreTheSameEachTime(t *testing.T) {
	answers := func(n int64) []int64 {
		power, powerOk := impl.PowMod(n, n, 1000)
		inverse, inverseOk := impl.Inverse(n, 1000)
		answer, answerOk := impl.BlindAnswer(n, 3, 4)
		done, doneOk := impl.BlindDone(n, n, n)
		root, rootOk := impl.TreeRoot(impl.TreeKey{Seed: uint64(n), Height: n})
		p, pubOk := impl.PubOf(impl.Secret{Scheme: impl.ScGroup, X: uint64(n)})
		oks := []bool{powerOk, inverseOk, answerOk, doneOk, rootOk, pubOk}
		out := []int64{power, inverse, impl.KeyOf(n), answer, done.E, done.S, int64(root), int64(p.Y)}
		for _, ok := range oks {
			out = append(out, int64(flag(ok)))
		}
		return out
	}
	for _, n := range []int64{-1, 0, 1, 3, 7, 999, 1000, impl.Q} {
		if first, second := answers(n), answers(n); !slices.Equal(first, second) {
			t.Error(n, "answers unlike", first, second)
		}
	}
}

// Without this nobody would know whether stays can tell.
func TestMemoryIsTold(t *testing.T) {
	list := []byte{1, 2, 3, 4}
	kept := []byte{1}
	rows := []struct {
		why  string
		list []reflect.Value
		want bool
	}{
		{"two lists", []reflect.Value{reflect.ValueOf([]byte{1}), reflect.ValueOf([]byte{1})}, true},
		{"one list twice", []reflect.Value{reflect.ValueOf(list), reflect.ValueOf(list)}, false},
		{"a list and the spare room of another", []reflect.Value{reflect.ValueOf(list[:2]), reflect.ValueOf(list[2:])}, false},
		{"two parts, each without room", []reflect.Value{reflect.ValueOf(list[:2:2]), reflect.ValueOf(list[2:])}, true},
		{"lists within", []reflect.Value{reflect.ValueOf(impl.Ext{Value: kept}), reflect.ValueOf([]impl.Ext{{Value: kept}})}, false},
		{"empty lists", []reflect.Value{reflect.ValueOf([]byte{}), reflect.ValueOf([]byte{})}, true},
	}
	for _, row := range rows {
		if got := allApart(memoryOfAll(row.list)); got != row.want {
			t.Error(row.why, got)
		}
	}
	c := roomyCopy(reflect.ValueOf(caCert()))
	before := shown(c, true)
	if shown(c, false) != shown(reflect.ValueOf(caCert()), false) || shown(c, false) == before {
		t.Error("the copy is another, or has no room", before)
	}
	given := c.Interface().(impl.Cert)
	for i, spoilt := range []func(){
		func() { given.Names[:cap(given.Names)][4].Text = "x" },
		func() { given.Exts[1].Value[0]++ },
		func() { given.Exts[1].Value = append(given.Exts[1].Value, 1) },
		func() { given.Issuer.Parts[1].Attr++ },
	} {
		spoilt()
		if now := shown(c, true); now == before {
			t.Error("spoilt, but unseen:", i)
		} else {
			before = now
		}
	}
}

func TestCertsStayAsTheyWere(t *testing.T) {
	r := rand.New(rand.NewSource(99))
	certs := []impl.Cert{endCert(), caCert(), greatCert(), {}, changed(caCert(), func(c *impl.Cert) { c.Serial = 0 })}
	for range 20 {
		certs = append(certs, anyCert(r))
	}
	secrets := []impl.Secret{{Scheme: impl.ScGroup, X: 5}, {Scheme: impl.ScTree, X: 7, Height: 1}, {Scheme: impl.ScTree, X: 7, Height: 1, Next: 2}, {}}
	for _, c := range certs {
		stays(t, impl.CertOk, c)
		stays(t, impl.CertBody, c)
		stays(t, impl.CertBytes, c)
		stays(t, impl.Finger, c)
		stays(t, impl.KeyId, c.Key)
		stays(t, impl.ReadCert, slowCert(c))
		stays(t, impl.ReadCert, slowCert(c)[1:])
		for _, s := range secrets {
			p, _ := impl.PubOf(s)
			stays(t, impl.IssueCert, c, s)
			issued, _, _ := impl.IssueCert(c, s)
			stays(t, impl.CertSigned, issued, p)
			stays(t, impl.CertSigned, c, p)
			stays(t, impl.MakeReq, c.Subject, c.Names, s)
			q, _, _ := impl.MakeReq(c.Subject, c.Names, s)
			stays(t, impl.ReqOk, q)
			stays(t, impl.ReqOk, impl.Req{Subject: c.Subject, Names: c.Names, Key: c.Key, Sig: c.Sig})
		}
	}
}

func TestCertsWhoseListsShareMemory(t *testing.T) {
	name := partsOf("a", "b")
	gens := []impl.GenName{{Kind: impl.GnName, Name: name}, {Kind: impl.GnName, Name: impl.Name{Parts: name.Parts[:1]}}}
	value := []byte{1, 2}
	c := caCert()
	c.Issuer, c.Subject, c.Names, c.Permit, c.Deny, c.Sig = name, name, gens, gens, gens[:1], value
	c.Exts = []impl.Ext{{Id: 1, Value: value}, {Id: 2, Value: value[:1]}}
	s := impl.Secret{Scheme: impl.ScGroup, X: 5}
	if got, _, code := impl.IssueCert(c, s); code != 0 || !impl.CertSigned(got, impl.Pub{Scheme: impl.ScGroup, Y: 1024}) {
		t.Fatal("not issued", code)
	}
	staysWithTwins(t, impl.CertBytes, c)
	staysWithTwins(t, impl.IssueCert, c, s)
	staysWithTwins(t, impl.MakeReq, name, gens, s)
}

func TestListsAndRepliesStayAsTheyWere(t *testing.T) {
	r := rand.New(rand.NewSource(107))
	lists := []impl.Crl{ownList(9, manyGone(1, 20)...), othersList(9, goneOf("x", 1, 7, 2), goneOf("y", 1, 7, 3)), {}, ownList(9, goneAt(0, 7, 2)), deltaOf(ownList(9, goneAt(1, 7, impl.RsOut)), 3)}
	for range 60 {
		lists = append(lists, anyList(r))
	}
	for _, l := range listsInARow(r, 8) {
		lists = append(lists, l)
	}
	secrets := []impl.Secret{{Scheme: impl.ScGroup, X: 5}, {Scheme: impl.ScTree, X: 7, Height: 1}, {Scheme: impl.ScTree, X: 7, Height: 1, Next: 2}, {}}
	for i, l := range lists {
		stays(t, impl.CrlOk, l)
		for _, s := range secrets {
			p, _ := impl.PubOf(s)
			stays(t, impl.SignCrl, l, s)
			signed, _, _ := impl.SignCrl(l, s)
			stays(t, impl.CrlSigned, signed, p)
			stays(t, impl.CrlSigned, l, p)
			nonce := someBytes(r, 17)
			stays(t, impl.Answer, lists[:i%22], l.Issuer, int64(1), nonce, int64(25), int64(9), s)
			reply, _, _ := impl.Answer(lists[:i%22], l.Issuer, 1, nonce, 25, 9, s)
			stays(t, impl.ReplyCheck, reply, p, l.Issuer, int64(1), nonce, int64(25))
		}
		stays(t, impl.Standing, lists[:i%22], l.Issuer, int64(1), int64(25))
		for _, other := range lists[i:min(i+3, len(lists))] {
			stays(t, impl.MakeDelta, l, other)
			stays(t, impl.ApplyDelta, l, other)
			delta, _ := impl.MakeDelta(l, other)
			stays(t, impl.ApplyDelta, l, delta)
		}
	}
}

func TestListsWhoseListsShareMemory(t *testing.T) {
	name := partsOf("a", "b")
	value := []byte{1, 2}
	entries := []impl.Gone{{Issuer: name, Serial: 1, At: 1, Reason: 1}, {Issuer: name, Serial: 2, At: 1, Reason: 1}, {Issuer: impl.Name{Parts: name.Parts[:1]}, Serial: 1, At: 1, Reason: 1}}
	old := impl.Crl{Issuer: name, Number: 1, Base: -1, At: 9, Next: 20, Scope: 126, Indirect: true, Entries: entries[:2], Sig: value}
	now := old
	now.Number, now.Entries = 2, entries[1:]
	s := impl.Secret{Scheme: impl.ScGroup, X: 5}
	delta, code := impl.MakeDelta(old, now)
	if code != 0 || len(delta.Entries) != 2 {
		t.Fatal("no delta", delta, code)
	}
	delta.Issuer, delta.Entries[0].Issuer = name, name
	staysWithTwins(t, impl.SignCrl, old, s)
	staysWithTwins(t, impl.MakeDelta, old, now)
	staysWithTwins(t, impl.ApplyDelta, old, delta)
	staysWithTwins(t, impl.Answer, []impl.Crl{old, now, old}, name, int64(1), value, int64(10), int64(5), s)
}

func TestCascadesStayAsTheyWere(t *testing.T) {
	r := rand.New(rand.NewSource(117))
	for _, count := range []int{0, 1, 2, 5, 40, 300, 301} {
		list := unlikeDigests(r, 2*count)
		stays(t, impl.Build, list[:count], list[count:])
		stays(t, impl.Build, list[count:], list)
		staysWithTwins(t, impl.Build, list[:count], list[count:])
		c, _ := impl.Build(list[:count], list[count:])
		stays(t, impl.CascadeBytes, c)
		stays(t, impl.InCascade, c, uint64(count))
		b, _ := impl.CascadeBytes(c)
		stays(t, impl.ReadCascade, b)
		stays(t, impl.ReadCascade, append(b, 1))
	}
	row := []byte{1, 0, 1, 1}
	shared := cascadeOf(row, row[:2], row[1:])
	staysWithTwins(t, impl.CascadeBytes, shared)
	staysWithTwins(t, impl.InCascade, shared, uint64(9))
	stays(t, impl.CascadeBytes, cascadeOf(row, nil))
	stays(t, impl.CascadeBytes, cascadeOf(row, []byte{2}))
}

func TestPoliciesStayAsTheyWere(t *testing.T) {
	r := rand.New(rand.NewSource(135))
	wrong := [][]impl.PolCert{nil, {}, pathOf(says(1, 1)), pathOf(says(1), says(1001)), pathOf(withMaps(says(1), mapOf(0, 1))), slices.Repeat(pathOf(says(1)), 9)}
	paths := append(wrong, pathOf(says(0), says(0, 4)), pathOf(withMaps(says(3, 1), mapOf(3, 2), mapOf(3, 1)), says(2, 1)))
	for range 200 {
		paths = append(paths, anyPolPath(r))
	}
	for _, path := range paths {
		flags := [][3]bool{{}, {true}, {false, true}, {false, false, true}, {true, true, true}}
		for _, on := range flags {
			for _, p := range []int64{0, 1, 3, 1001} {
				stays(t, impl.PolicyHolds, path, p, on[1], on[2])
			}
			for _, initial := range [][]int64{nil, {0}, {5, 3, 3, 1}, {1001}, anyAsked(r), anyAsked(r)} {
				stays(t, impl.PathPolicies, path, initial, on[0], on[1], on[2])
			}
		}
	}
}

func TestPoliciesWhoseListsShareMemory(t *testing.T) {
	list := []int64{0, 7, 5, 3, 1}
	maps := []impl.PolMap{{From: 7, To: 5}, {From: 7, To: 3}, {From: 3, To: 1}}
	path := pathOf(withMaps(says(list...), maps...), withMaps(says(list[:2]...), maps[1:]...), withMaps(says(list[1:3]...), maps[:1]...), says(list...))
	if got, ok := impl.PathPolicies(path, list, false, false, false); !ok || !slices.Equal(got, []int64{5, 7}) {
		t.Fatal("got", got, ok)
	}
	staysWithTwins(t, impl.PolicyHolds, path, int64(7), false, false)
	staysWithTwins(t, impl.PathPolicies, path, list, false, false, false)
	staysWithTwins(t, impl.PathPolicies, path, list[1:], true, false, false)
}

func TestPathsStayAsTheyWere(t *testing.T) {
	r := rand.New(rand.NewSource(136))
	for range 150 {
		w := anyTrail(r)
		path := w.path()
		stays(t, impl.AnchorOk, w.anchor)
		stays(t, impl.AskOk, w.ask)
		stays(t, impl.Check, path, w.anchor, w.ask)
		stays(t, impl.FitsNames, w.anchor.Permit, w.anchor.Deny, path[len(path)-1])
	}
	wrong := plainTrail(2)
	wrong.certs[1].Serial = 0
	stays(t, impl.Check, wrong.path(), wrong.anchor, wrong.ask)
	stays(t, impl.Check, []impl.Cert(nil), impl.Anchor{}, impl.Ask{})
	stays(t, impl.FitsNames, gens(hostGen("*.a.b")), gens(impl.GenName{}), greatCert())
	stays(t, impl.FitsNames, greatCert().Permit, greatCert().Deny, greatCert())
	stays(t, impl.FitsNames, gens(hostGen("y")), gens(hostGen("z")), namedCert())
	stays(t, impl.AnchorOk, impl.Anchor{})
	stays(t, impl.AskOk, impl.Ask{})
}

func TestPathsThatAreFoundStayAsTheyWere(t *testing.T) {
	r := rand.New(rand.NewSource(144))
	for range 60 {
		pool, anchors := anyPool(r, impl.MaxPool), anyAnchors(r, 6)
		q := plainAsk()
		q.Uses, q.Known, q.Lists = 0, []int64{4, 2}, []impl.Crl{speaking(partsOf("r"), goneAt(3, 5, 1)), othersList(1, goneOf("a", 4, 5, 2))}
		stays(t, impl.Links, pool, anchors)
		for target := int64(-1); target <= int64(len(pool)); target++ {
			stays(t, impl.Find, pool, anchors, target, q)
		}
	}
	stays(t, impl.Links, slices.Repeat(line(1), 15), theRoot())
	stays(t, impl.Links, line(1), []impl.Anchor{{}})
	stays(t, impl.Find, mesh(), theRoot(), int64(3), impl.Ask{})
	stays(t, impl.Find, line(impl.MaxPath), theRoot(), int64(0), plainAsk())
}

func TestPathsWhoseListsShareMemory(t *testing.T) {
	w := plainTrail(3)
	names := gens(hostGen("a.x"), hostGen("b.x"), hostGen("x"))
	w.anchor.Permit, w.anchor.Deny = names[2:], names[2:2]
	w.ask.Policies, w.ask.Known = []int64{0, 5, 7}, []int64{0, 5, 7}
	w.ask.Known = w.ask.Policies[1:]
	path := w.path()
	for i := range path {
		path[i].Names, path[i].Policies = names[:2], w.ask.Policies
		path[i] = signedWith(path[i], w.signer(i))
	}
	if code, at := impl.Check(path, w.anchor, w.ask); code != 0 || at != 0 {
		t.Fatal(code, at)
	}
	anchors := []impl.Anchor{w.anchor, w.anchor}
	staysWithTwins(t, impl.Check, path, w.anchor, w.ask)
	staysWithTwins(t, impl.FitsNames, names, names, path[2])
	staysWithTwins(t, impl.Links, slices.Concat(path, path), anchors)
	staysWithTwins(t, impl.Find, slices.Concat(path, path), anchors, int64(2), w.ask)
}

func TestLogsStayAsTheyWere(t *testing.T) {
	for _, n := range []int{0, 1, 2, 3, 5, 8, 21, 64, 200, 201} {
		row, count := logRow(n), int64(n)
		root, _ := impl.LogRoot(row)
		stays(t, impl.EntryHash, digestsAsBytes(row...))
		stays(t, impl.LogRoot, row)
		for _, at := range []int64{-1, 0, 1, 2, 4, count - 1, count, count + 1} {
			stays(t, impl.Include, row, at)
			stays(t, impl.Extend, row, at)
			included, _ := impl.Include(row, at)
			stays(t, impl.CheckInclude, root, count, at, root, included)
			if ok := within(at, 0, min(count, 200)-1); ok {
				stays(t, impl.CheckInclude, root, count, at, row[at], included)
			}
			extended, _ := impl.Extend(row, at)
			stays(t, impl.CheckExtend, root, at, root, count, extended)
			if ok := within(at, 1, count); ok {
				old, _ := impl.LogRoot(row[:at])
				stays(t, impl.CheckExtend, old, at, root, count, extended)
			}
		}
		for level := int64(-1); level <= 4; level++ {
			for _, index := range []int64{-1, 0, 1, 12, 201} {
				stays(t, impl.Tile, row, level, index)
			}
		}
		stays(t, impl.Tiled, tilesOf(row, 0, 1, 2, 3), count)
		stays(t, impl.Tiled, tilesOf(row, 1, 2, 3), count)
	}
	stays(t, impl.Tiled, []impl.TileOf{{Hashes: make([]uint64, 5)}}, int64(1))
}

func TestHeadsStayAsTheyWere(t *testing.T) {
	for _, s := range append(headSecrets(), impl.Secret{}, usedUp(1)) {
		p := pubOfSecret(s)
		for _, n := range []int{0, 1, 5, 200, 201} {
			stays(t, impl.SignHead, int64(1), logRow(n), int64(7), s)
			stays(t, impl.SignHead, int64(0), logRow(n), int64(7), s)
			h, _, _ := impl.SignHead(1, logRow(n), 7, s)
			stays(t, impl.HeadSigned, h, p)
			stays(t, impl.HeadSigned, h, pubNo(9))
			stays(t, impl.Watch, impl.Watcher{Log: 1}, h, logRow(2), p, int64(9), s)
			stays(t, impl.Forked, []impl.Head{h, signedHead(headOf(bentRow(max(n, 1), 0), 7), secretNo(0)), h}, p)
		}
	}
	for _, row := range watchRows() {
		x := changedWatching(row.change)
		stays(t, impl.Watch, x.w, x.head, x.proof, x.log, x.at, x.s)
	}
	for _, row := range headCheckRows() {
		c := changedChecking(row.change)
		stays(t, impl.HeadCheck, c.head, c.log, c.cosigs, c.who, c.least, c.now, c.age)
	}
	fork := []impl.Head{signedHead(headOf(logRow(3), 5), secretNo(0)), signedHead(headOf(bentRow(3, 1), 5), secretNo(0))}
	stays(t, impl.Forked, fork, pubNo(0))
	stays(t, impl.Forked, make([]impl.Head, 21), pubNo(0))
}

func TestViewsStayAsTheyWere(t *testing.T) {
	r := rand.New(rand.NewSource(168))
	stays(t, impl.Views, []impl.ViewOp(nil))
	stays(t, impl.Views, make([]impl.ViewOp, 101))
	for range 300 {
		var ops []impl.ViewOp
		for range r.Intn(101) {
			ops = append(ops, anyOp(r))
		}
		stays(t, impl.Views, ops)
	}
}

func TestLogsWhoseListsShareMemory(t *testing.T) {
	row := logRow(200)
	tiles := []impl.TileOf{{Hashes: row[:4]}, {Index: 1, Hashes: row[2:4]}, {Level: 1, Hashes: row[:2]}}
	for _, list := range [][]uint64{row[:1], row[:7], row[3:], row} {
		staysWithTwins(t, impl.LogRoot, list)
		staysWithTwins(t, impl.Include, list, int64(0))
		staysWithTwins(t, impl.Extend, list, int64(1))
		staysWithTwins(t, impl.Tile, list, int64(0), int64(0))
		staysWithTwins(t, impl.CheckInclude, row[0], int64(8), int64(0), row[1], list)
		staysWithTwins(t, impl.CheckExtend, row[0], int64(2), row[1], int64(8), list)
		staysWithTwins(t, impl.SignHead, int64(1), list, int64(5), secretNo(0))
	}
	if _, taken := impl.Tiled(tiles, 6); taken != 3 {
		t.Fatal("taken", taken)
	}
	staysWithTwins(t, impl.Tiled, tiles, int64(6))
	c := plainChecking()
	sig := c.cosigs[0].Sig
	c.head.Sig, c.cosigs[2].Sig = sig, sig[:1]
	staysWithTwins(t, impl.HeadCheck, c.head, c.log, append(c.cosigs, c.cosigs...), append(c.who, c.who...), c.least, c.now, c.age)
	h := signedHead(headOf(row[:3], 5), secretNo(0))
	staysWithTwins(t, impl.Forked, []impl.Head{h, h, {Log: 1, Size: 3, At: 5, Sig: h.Sig[:2]}}, pubNo(0))
	staysWithTwins(t, impl.Watch, impl.Watcher{Log: 1, Size: 3, Root: h.Root}, h, row[:0], pubNo(0), int64(5), secretNo(1))
}

func TestMessagesStayAsTheyWere(t *testing.T) {
	r := rand.New(rand.NewSource(178))
	lists := [][]impl.Secret{nil, {secretNo(1)}, headSecrets(), {secretNo(1), {}}, {treeNo(1), usedUp(1)}, make([]impl.Secret, 7)}
	for _, list := range lists {
		for _, size := range []int{0, 1, 64, 4000, 4001} {
			stays(t, impl.SignMsg, someText(size), int64(5), list)
		}
		stays(t, impl.SignMsg, someText(5), int64(-1), list)
	}
	msgs := []impl.Msg{plainMsg(), smallMsg(), {}, sizedMsg(20000), sizedMsg(20001)}
	for _, row := range msgCases() {
		msgs = append(msgs, changedMsg(plainMsg(), row.change))
	}
	for range 30 {
		msgs = append(msgs, anySigned(r))
	}
	for _, m := range msgs {
		for _, s := range []impl.Secret{secretNo(7), treeNo(7), usedUp(1), {}} {
			for _, i := range []int64{-1, 0, 2, 6} {
				stays(t, impl.CounterSign, m, i, int64(7), s)
			}
		}
		stays(t, impl.MsgCheck, m, plainKeys(), int64(110))
		stays(t, impl.MsgCheck, m, make([]impl.Pub, 21), int64(110))
		stays(t, impl.MsgBytes, m)
		stays(t, impl.ReadMsg, slowMsg(m))
	}
	for range 60 {
		b := laxBytes(r, laxMsg(r, oneOf(r, msgs[:3]...)))
		stays(t, impl.ReadMsg, b)
		b[r.Intn(len(b))] ^= 1
		stays(t, impl.ReadMsg, b)
	}
}

func TestEnvelopesAndStoresStayAsTheyWere(t *testing.T) {
	for _, size := range []int{0, 1, 8, 9, 4000, 4001} {
		content := someText(size)
		for _, count := range []int{0, 1, 3, 20, 21} {
			stays(t, impl.SealMsg, content, openers(count), int64(77))
			stays(t, impl.SealMsg, content, openers(count), int64(0))
			e := slowSeal(content, openers(count), 77)
			stays(t, impl.OpenMsg, e, secretOf(0))
			stays(t, impl.OpenMsg, e, int64(0))
			stays(t, impl.OpenMsg, changedEnvelope(e, func(e *impl.Envelope) { e.Tag++ }), secretOf(0))
		}
		for _, salt := range [][]byte{nil, {1, 2}, someText(17)} {
			stays(t, impl.Lock, content, "word", salt, int64(3))
			stays(t, impl.Lock, content, "word", salt, int64(0))
			stays(t, impl.Unlock, slowLock(content, "word", salt, 3), "word")
			stays(t, impl.Unlock, slowLock(content, "word", salt, 3), "Word")
		}
	}
}

func TestEvidenceStaysAsItWas(t *testing.T) {
	r := rand.New(rand.NewSource(182))
	for alg := range int64(11) {
		stays(t, impl.DigestBy, alg, someText(70))
		for _, s := range append(headSecrets(), impl.Secret{}, usedUp(1)) {
			stays(t, impl.MakeStamp, alg, uint64(7), int64(9), s)
			for _, count := range []int{1, 7, 8} {
				stays(t, impl.Renew, []byte("doc"), plainProving(count).chain, alg, int64(1000), s)
			}
		}
	}
	stays(t, impl.Renew, someText(4001), []impl.Stamp(nil), int64(1), int64(5), secretNo(1))
	for range 200 {
		p := anyProving(r)
		stays(t, impl.EvidenceCheck, p.doc, p.chain, p.keys, p.weak, p.now)
		stays(t, impl.Renew, p.doc, p.chain, int64(3), int64(30), secretNo(1))
	}
	for _, b := range stampBreakers() {
		p := changedProving(plainProving(3), func(p *proving) { b.spoil(p, 1) })
		stays(t, impl.EvidenceCheck, p.doc, p.chain, p.keys, p.weak, p.now)
	}
}

func TestMessagesWhoseListsShareMemory(t *testing.T) {
	shared := someText(300)
	signers := []impl.Signer{{Key: 1, At: 5, Sig: shared[:9]}, {Key: 2, At: 6, Sig: shared[3:20]}, {Key: 3, At: 7, Sig: shared[:9]}}
	over := slices.Clone(signers)
	signers[0].Over, signers[1].Over, signers[2].Over = over[:2], over[1:], over
	m := impl.Msg{Content: shared, Signers: signers}
	if _, _, code := impl.CounterSign(m, 0, 9, secretNo(1)); code != 0 {
		t.Fatal("not so", code)
	}
	for i := range int64(3) {
		staysWithTwins(t, impl.CounterSign, m, i, int64(9), secretNo(1))
	}
	staysWithTwins(t, impl.MsgCheck, m, plainKeys(), int64(9))
	staysWithTwins(t, impl.MsgBytes, m)
	staysWithTwins(t, impl.Lock, shared, "word", shared[:16], int64(3))
	staysWithTwins(t, impl.Unlock, impl.Store{Salt: shared[:16], Rounds: 3, Body: shared}, "word")
	chain := []impl.Stamp{{Alg: 1, At: 5, Sig: shared[:9]}, {Alg: 2, At: 6, Sig: shared[:9]}, {Alg: 1, At: 7, Sig: shared[5:]}}
	if _, _, code := impl.Renew(shared, chain, 1, 9, secretNo(1)); code != 0 {
		t.Fatal("not so", code)
	}
	staysWithTwins(t, impl.Renew, shared, chain, int64(1), int64(9), secretNo(1))
	staysWithTwins(t, impl.Renew, shared, chain[:2], int64(1), int64(9), secretNo(1))
	staysWithTwins(t, impl.EvidenceCheck, shared, chain, plainKeys(), []impl.Weak{{Alg: 1}}, int64(9))
	good := renewedBy(secretNo(1), shared, renewedBy(secretNo(1), shared, nil, 1, 5), 2, 6)
	staysWithTwins(t, impl.EvidenceCheck, shared, good, plainKeys(), []impl.Weak{{Alg: 3}}, int64(9))
}

// Behind these lists there is room for all that a call might put there.
func TestMuchRoomBehindTheLists(t *testing.T) {
	much := func(b []byte) []byte { return append(bytes.Clone(b), bytes.Repeat([]byte{170}, 6000)...)[:len(b)] }
	m := changedMsg(plainMsg(), func(m *impl.Msg) {
		m.Content = much(m.Content)
		for i := range m.Signers {
			m.Signers[i].Sig = much(m.Signers[i].Sig)
		}
	})
	staysWithTwins(t, impl.SignMsg, m.Content, int64(5), headSecrets())
	staysWithTwins(t, impl.CounterSign, m, int64(0), int64(130), treeNo(3))
	staysWithTwins(t, impl.MsgCheck, m, plainKeys(), int64(130))
	staysWithTwins(t, impl.MsgBytes, m)
	staysWithTwins(t, impl.ReadMsg, much(slowMsg(m)))
	e := slowSeal(m.Content, openers(3), 77)
	e.Body = much(e.Body)
	staysWithTwins(t, impl.SealMsg, m.Content, openers(3), int64(77))
	staysWithTwins(t, impl.OpenMsg, e, secretOf(0))
	store := slowLock(m.Content, "word", []byte{1, 2}, 3)
	store.Salt, store.Body = much(store.Salt), much(store.Body)
	staysWithTwins(t, impl.Lock, m.Content, "word", store.Salt, int64(3))
	staysWithTwins(t, impl.Unlock, store, "word")
	p := changedProving(plainProving(4), func(p *proving) {
		p.doc = much(p.doc)
		for i := range p.chain {
			p.chain[i].Sig = much(p.chain[i].Sig)
		}
	})
	staysWithTwins(t, impl.DigestBy, int64(1), p.doc)
	staysWithTwins(t, impl.Renew, p.doc, p.chain, int64(1), p.now, treeNo(3))
	staysWithTwins(t, impl.EvidenceCheck, p.doc, p.chain, p.keys, []impl.Weak{{Alg: 9}}, p.now)
}

func TestRulesStayAsTheyWere(t *testing.T) {
	r := rand.New(rand.NewSource(198))
	texts := []string{"", "x", "ca", "not ca or use server", "room", nestsIn(20, 5), nestsIn(21, 5), "ca" + string(bytes.Repeat([]byte{' '}, 399))}
	certs := []impl.Cert{{}, endCert(), caCert(), greatCert(), judgedCert()}
	for range 60 {
		texts = append(texts, spread(r, anyTree(r, 3).words(r, 0)))
		certs = append(certs, judgeable(r))
	}
	for i, text := range texts {
		stays(t, impl.RuleShow, text)
		for _, c := range []impl.Cert{certs[i%len(certs)], certs[(i+3)%len(certs)], {}} {
			stays(t, impl.Judge, text, c)
		}
	}
	for range 200 {
		var rules []impl.LintRule
		for range r.Intn(22) {
			rules = append(rules, impl.LintRule{Id: r.Int63n(9), When: oneOf(r, "", "ca", anyTree(r, 1).told()), Must: oneOf(r, "not ca", anyTree(r, 2).told())})
		}
		stays(t, impl.Lint, rules, oneOf(r, certs...))
	}
	stays(t, impl.Lint, []impl.LintRule{{Id: 1, Must: "not ca"}, {Id: 2}}, caCert())
	stays(t, impl.Lint, []impl.LintRule(nil), caCert())
	shared := gens(hostGen("a.x"), hostGen("b.x"), hostGen("x"))
	c := changed(judgedCert(), func(c *impl.Cert) { c.Names, c.Permit, c.Deny = shared[:2], shared[1:], shared })
	twice := []impl.LintRule{{Id: 1, Must: "hosts a"}, {Id: 2, Must: "host x"}, {Id: 3, Must: "hosts b.x"}}
	staysWithTwins(t, impl.Judge, "hosts a.x or hosts x", c)
	staysWithTwins(t, impl.Lint, twice[:2], c)
	staysWithTwins(t, impl.Lint, twice, c)
}

func TestEnrolmentsStayAsTheyWere(t *testing.T) {
	r := rand.New(rand.NewSource(208))
	for _, party := range []int64{-1, 0, 5, 1 << 62} {
		for _, order := range []int64{-1, 0, 99, 1 << 62} {
			stays(t, impl.TokenOf, party, order)
		}
	}
	stays(t, impl.Enrol, []impl.Hold(nil), []impl.EnOp(nil))
	stays(t, impl.Enrol, manyHolds(10), make([]impl.EnOp, 100))
	stays(t, impl.Enrol, manyHolds(11), []impl.EnOp{tickBy(1)})
	stays(t, impl.Enrol, []impl.Hold{{Host: "a"}, {Host: "a"}}, []impl.EnOp{tickBy(1)})
	stays(t, impl.Enrol, manyHolds(1), make([]impl.EnOp, 101))
	for range 300 {
		holds, ops := anyDeeds(r, r.Intn(101))
		stays(t, impl.Enrol, holds, ops)
	}
	holds, ops := anyDeeds(r, 100)
	for _, count := range []int{0, 1, 50, 99} {
		staysWithTwins(t, impl.Enrol, holds, ops[:count])
		staysWithTwins(t, impl.Enrol, holds, ops[count:])
	}
}

// Runs beside one another keep nothing of each other.
func TestEnrolmentsKeepNothing(t *testing.T) {
	r := rand.New(rand.NewSource(209))
	holds, ops := anyDeeds(r, 100)
	want, _ := impl.Enrol(holds, ops)
	for range 200 {
		otherHolds, otherOps := anyDeeds(r, 60)
		impl.Enrol(otherHolds, otherOps)
		if got, ok := impl.Enrol(holds, ops); !ok || !sameReport(got, want) {
			t.Fatal(got, ok, want)
		}
	}
}

func TestCeremoniesStayAsTheyWere(t *testing.T) {
	r := rand.New(rand.NewSource(218))
	stays(t, impl.Ceremony, int64(5), []int64(nil), int64(1), []impl.CeOp(nil))
	stays(t, impl.Ceremony, int64(0), []int64{1}, int64(2), []impl.CeOp{waiting(1)})
	stays(t, impl.Ceremony, int64(5), manyNumbers(19, 3), int64(20), make([]impl.CeOp, 60))
	stays(t, impl.Ceremony, int64(5), manyNumbers(20, 3), int64(20), make([]impl.CeOp, 61))
	for range 300 {
		d := anyDealing(r)
		stays(t, impl.Ceremony, d.secret, d.more, d.n, anyCeOps(r, d, r.Intn(62)))
	}
	// Beginnings and pieces of one list of ops, whose Whats are pieces of one text.
	d, what := dealt(2, 4), someText(100)
	ops := []impl.CeOp{
		{Kind: impl.CePropose, Who: 1, What: what[:50]}, {Kind: impl.CePropose, Who: 2, What: what[:50]}, {Kind: impl.CePropose, Who: 2, What: what[20:]},
		consent(1, 0), consent(3, 2), consent(2, 0), consent(1, 2), consent(4, 1), consent(3, 1),
	}
	for count := range len(ops) + 1 {
		staysWithTwins(t, impl.Ceremony, d.secret, d.more, d.n, ops[:count])
		staysWithTwins(t, impl.Ceremony, d.secret, d.more, d.n, ops[count:])
	}
}

func TestRollOverStaysAsItWas(t *testing.T) {
	w := plainRolling()
	long := partsOf("a", "b", "c", "d")
	secrets := append(headSecrets(), usedUp(1), impl.Secret{}, secretNo(3))
	for _, old := range secrets {
		for _, now := range secrets {
			for count := range 5 {
				name := impl.Name{Parts: long.Parts[:count]}
				stays(t, impl.RollOver, old, now, name, w.from, w.both, w.to, w.serial)
				staysWithTwins(t, impl.RollOver, old, now, name, w.from, w.both, w.to, w.serial)
			}
		}
	}
	stays(t, impl.RollOver, w.old, w.now, w.name, w.both, w.from, w.to, w.serial)
}

func TestTrustStaysAsItWas(t *testing.T) {
	for i, row := range fileCases() {
		stays(t, impl.FileBody, row.file)
		if i%5 == 0 {
			stays(t, impl.SignFile, row.file, oneOf(rand.New(rand.NewSource(int64(i))), secretNo(1), treeNo(2), usedUp(1), impl.Secret{}))
			s := plainState()
			stays(t, impl.TrustStep, s, row.file, int64(100))
			_, stamp, list := filesIn(s)
			s.Root, s.Stamp, s.List = row.file.Root, stamp.Stamp, list.List
			stays(t, impl.TrustStep, s, plainStampFile(), int64(100))
			stays(t, impl.Trusted, s, uint64(9), int64(70), int64(100))
		}
	}
	for kind := range int64(5) {
		stays(t, impl.FileBody, badFile(kind))
		stays(t, impl.SignFile, badFile(kind), secretNo(1))
		stays(t, impl.TrustStep, plainState(), badFile(kind), int64(100))
		bad := badFile(kind)
		stays(t, impl.TrustStep, impl.TrustState{Root: bad.Root, Stamp: bad.Stamp, List: bad.List}, bad, int64(100))
		stays(t, impl.Trusted, impl.TrustState{Root: bad.Root, Stamp: bad.Stamp, List: bad.List}, uint64(0), int64(0), int64(0))
	}
	for kind := int64(1); kind <= 3; kind++ {
		for _, w := range []stepping{plainStepping(kind), plainStepping(kind).with(func(w *stepping) { w.by = nil })} {
			s, f, now := w.args()
			stays(t, impl.TrustStep, s, f, now)
			stays(t, impl.SignFile, f, treeNo(1))
			stays(t, impl.Trusted, s, uint64(9), int64(70), now)
		}
	}
	stays(t, impl.TrustStep, impl.TrustState{}, impl.TrustFile{}, int64(0))
}

// The file is a piece of the state, and its lists share what they have.
func TestTrustOfTwins(t *testing.T) {
	s := plainState()
	s.Root.Roles[1].Keys, s.Root.Roles[2].Keys = s.Root.Roles[0].Keys[:2], s.Root.Roles[0].Keys[1:]
	s.Root.Roles[1].Need, s.Root.Roles[2].Need = 2, 2
	next := impl.TrustFile{Kind: impl.TfRoot, Root: s.Root}
	next.Root.Version++
	next.Root.Sigs = []impl.FileSig{fileSigBy(next, keeper(1)), fileSigBy(next, keeper(3))}
	s.Stamp.Sigs, s.List.Sigs, s.Root.Sigs = next.Root.Sigs[:1], next.Root.Sigs[1:], next.Root.Sigs
	if got, code := impl.TrustStep(s, next, 100); code != 0 || got.Stamp.Version != 7 || got.List.Version != 3 {
		t.Fatal("not so", got, code)
	}
	root, stamp, list := filesIn(s)
	for _, f := range []impl.TrustFile{next, root, stamp, list} {
		staysWithTwins(t, impl.TrustStep, s, f, int64(100))
		staysWithTwins(t, impl.FileBody, f)
		staysWithTwins(t, impl.SignFile, f, secretNo(1))
		staysWithTwins(t, impl.SignFile, f, treeNo(1))
	}
	staysWithTwins(t, impl.Trusted, s, uint64(9), int64(70), int64(100))
}

func TestAllowedStaysAsItWas(t *testing.T) {
	r := rand.New(rand.NewSource(2303))
	for i, row := range certCases() {
		if i%4 == 0 {
			stays(t, impl.Allowed, anyAllowRules(r, 6), row.c, int64(1+i%3))
		}
	}
	name := nameGen("s", "t", "u")
	base := name
	base.Name.Parts = name.Name.Parts[:2]
	c := allowedCert()
	c.Names, c.Subject = gens(name, hostGen("a.b")), impl.Name{Parts: name.Name.Parts[:2]}
	staysWithTwins(t, impl.Allowed, []impl.AllowRule{lets(base, 0)}, c, int64(1))
	staysWithTwins(t, impl.Allowed, []impl.AllowRule{bars(name, 2), lets(base, 1)}, c, int64(1))
	stays(t, impl.Allowed, []impl.AllowRule{}, impl.Cert{}, int64(0))
}

func TestMeetStaysAsItWas(t *testing.T) {
	of := func(e encounter) []any { return []any{e.a, e.b, e.host, e.action, e.na, e.nb, e.now} }
	tree := func(e *encounter) {
		takeSecret(&e.a, clientKeys, treeNo(1))
		takeSecret(&e.b, serverKeys, treeNo(2))
	}
	for _, e := range []encounter{plainEncounter(), stranger(), plainEncounter().with(tree), stranger().with(tree)} {
		stays(t, impl.Meet, of(e)...)
		// Both have the same nonce, out of one text.
		text := someText(16)
		e.na, e.nb = text[:8], text[:8]
		staysWithTwins(t, impl.Meet, of(e)...)
		e.nb = text[4:]
		staysWithTwins(t, impl.Meet, of(e)...)
	}
	for _, b := range meetBreakers() {
		stays(t, impl.Meet, of(plainEncounter().with(b.put))...)
	}
	stays(t, impl.Meet, impl.Side{}, impl.Side{}, "", int64(0), []byte{}, []byte{}, int64(0))
}

// Who meets itself has one path, one list of anchors, and one of rules, on both sides.
func TestMeetOfOneSide(t *testing.T) {
	e := plainEncounter()
	takeSecret(&e.b, serverKeys, treeNo(3))
	remade(&e.b, serverKeys, func(c *impl.Cert) { c.Uses = 255 })
	e.b.Anchors, e.b.Rules = []impl.Anchor{rootOf(serverKeys)}, []impl.AllowRule{lets(hostGen("y"), 0)}
	e.a = e.b
	got := wantMet(t, "itself", e, 0)
	if toldOf(got.SigA) != toldOf(got.SigB) {
		t.Error("one secret signs twice as it was")
	}
	staysWithTwins(t, impl.Meet, e.a, e.b, e.host, e.action, e.na, e.nb, e.now)
}

func TestRunScriptStaysAsItWas(t *testing.T) {
	r := rand.New(rand.NewSource(2403))
	for range 50 {
		stays(t, impl.RunScript, strings.Join(anyScript(r), "\n")+"\n")
	}
	for _, text := range []string{"", "x", "\n", "key k 5\n", strings.Repeat("tick 1\n", 61)} {
		stays(t, impl.RunScript, text)
	}
}
