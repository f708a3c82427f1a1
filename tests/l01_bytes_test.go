package tests

import (
	"bytes"
	"math"
	"strings"
	"testing"

	"loop.example/g00041/impl"
)

// groupEdges are the numbers around each edge at which one more group is needed.
func groupEdges() []int64 {
	list := []int64{0, 1, 2, 5, 126, math.MaxInt64 - 1, math.MaxInt64}
	for bits := 7; bits <= 56; bits += 7 {
		edge := int64(1) << bits
		list = append(list, edge-1, edge, edge+1)
	}
	return list
}

// slowDigest works the digest out from the document's words alone, the bytes first laid out in one list.
func slowDigest(data []byte) uint64 {
	n := len(data)
	all := append([]byte{}, data...)
	for shift := 56; shift >= 0; shift -= 8 {
		all = append(all, byte(uint64(n)>>shift))
	}
	h := uint64(7809847782465536322)
	for i := 0; i < len(all); i++ {
		h = (h ^ uint64(all[i])) * 6364136223846793005
		h += 1442695040888963407
		h = h ^ (h / (1 << 29))
	}
	return h
}

func TestHashIsTheStatedDigest(t *testing.T) {
	for n := 0; n < 600; n++ {
		data := make([]byte, n)
		for i := range data {
			data[i] = byte(i*37 + n)
		}
		if got, want := impl.Hash(data), slowDigest(data); got != want {
			t.Fatal("bytes:", n, "got", got, "want", want)
		}
	}
	long := bytes.Repeat([]byte{255}, 70000)
	if got, want := impl.Hash(long), slowDigest(long); got != want {
		t.Error("70000 bytes: got", got, "want", want)
	}
}

func TestTurnedByteTurnsDigest(t *testing.T) {
	rows := [][]byte{{0}, {255}, {0, 0}, []byte("abc"), bytes.Repeat([]byte{0}, 20), bytes.Repeat([]byte{171}, 9)}
	for _, row := range rows {
		was := impl.Hash(row)
		for i := range row {
			for turn := 1; turn < 256; turn++ {
				other := bytes.Clone(row)
				other[i] ^= byte(turn)
				if impl.Hash(other) == was {
					t.Fatal("the same digest", row, other)
				}
			}
		}
	}
}

func TestLengthTurnsDigest(t *testing.T) {
	seen := map[uint64]int{}
	for n := 0; n < 300; n++ {
		h := impl.Hash(make([]byte, n))
		if other, ok := seen[h]; ok {
			t.Fatal("one digest of so many bytes 0:", other, n)
		}
		seen[h] = n
	}
}

func TestHashAllIsOfNumberedParts(t *testing.T) {
	long := bytes.Repeat([]byte{7}, 200)
	rows := [][][]byte{nil, {}, {nil}, {{}}, {{1}}, {{1, 2}, {}}, {{}, {1, 2}}, {{1}, {2}}, {long, {9}}, make([][]byte, 130)}
	for _, parts := range rows {
		all := impl.PutNum(int64(len(parts)))
		for _, part := range parts {
			all = append(all, impl.PutNum(int64(len(part)))...)
			all = append(all, part...)
		}
		if got, want := impl.HashAll(parts), impl.Hash(all); got != want {
			t.Error(len(parts), "parts: got", got, "want", want)
		}
	}
	if impl.HashAll([][]byte{{1, 2}, {3}}) == impl.HashAll([][]byte{{1}, {2, 3}}) {
		t.Error("where a part ends is not told")
	}
	if impl.HashAll(nil) == impl.HashAll([][]byte{{}}) {
		t.Error("an empty part is not told")
	}
}

func TestPutNumForms(t *testing.T) {
	rows := []struct {
		n    int64
		want []byte
	}{
		{math.MinInt64, nil}, {-1, nil},
		{0, []byte{0}}, {1, []byte{1}}, {127, []byte{127}},
		{128, []byte{129, 0}}, {129, []byte{129, 1}}, {16383, []byte{255, 127}},
		{16384, []byte{129, 128, 0}}, {2097151, []byte{255, 255, 127}}, {2097152, []byte{129, 128, 128, 0}},
		{1 << 56, []byte{129, 128, 128, 128, 128, 128, 128, 128, 0}},
		{math.MaxInt64, []byte{255, 255, 255, 255, 255, 255, 255, 255, 127}},
	}
	for _, row := range rows {
		if got := impl.PutNum(row.n); !bytes.Equal(got, row.want) {
			t.Error(row.n, "got", got, "want", row.want)
		}
	}
}

func TestNumbersReadBackInARow(t *testing.T) {
	edges := groupEdges()
	var row []byte
	for _, n := range edges {
		row = append(row, impl.PutNum(n)...)
	}
	at := int64(0)
	for _, want := range edges {
		n, next, code := impl.GetNum(row, at)
		if n != want || code != 0 || next != at+int64(len(impl.PutNum(want))) {
			t.Fatal("want", want, "got", n, next, code, "at", at)
		}
		at = next
	}
	if n, next, code := impl.GetNum(row, at); n != 0 || next != 0 || code != impl.BShort {
		t.Error("at the end of the row", n, next, code)
	}
}

func TestNumberCutOffIsShort(t *testing.T) {
	for _, n := range groupEdges() {
		whole := impl.PutNum(n)
		for cut := range whole {
			if x, next, code := impl.GetNum(whole[:cut], 0); x != 0 || next != 0 || code != impl.BShort {
				t.Error(n, "cut at", cut, "got", x, next, code)
			}
		}
	}
}

func TestGetNumCodes(t *testing.T) {
	nine := bytes.Repeat([]byte{255}, 9)
	rows := []struct {
		name string
		b    []byte
		at   int64
		n    int64
		next int64
		code int64
	}{
		{"nothing, at 0", nil, 0, 0, 0, impl.BShort},
		{"nothing, at 1", nil, 1, 0, 0, impl.BPlace},
		{"nothing, below 0", nil, -1, 0, 0, impl.BPlace},
		{"the first", []byte{5, 6}, 0, 5, 1, 0},
		{"the last", []byte{5, 6}, 1, 6, 2, 0},
		{"at the end", []byte{5, 6}, 2, 0, 0, impl.BShort},
		{"behind the end", []byte{5, 6}, 3, 0, 0, impl.BPlace},
		{"far behind the end", []byte{5, 6}, math.MaxInt64, 0, 0, impl.BPlace},
		{"below 0", []byte{5, 6}, -1, 0, 0, impl.BPlace},
		{"far below 0", []byte{5, 6}, math.MinInt64, 0, 0, impl.BPlace},
		{"128 first", []byte{128, 5}, 0, 0, 0, impl.BForm},
		{"128 first and alone", []byte{128}, 0, 0, 0, impl.BForm},
		{"128 first and 0", []byte{128, 0}, 0, 0, 0, impl.BForm},
		{"128 first at another place", []byte{5, 128, 5}, 1, 0, 0, impl.BForm},
		{"128 later", []byte{129, 128, 5}, 0, 16389, 3, 0},
		{"128 last of what is read", []byte{129, 128}, 0, 0, 0, impl.BShort},
		{"a place within a number", []byte{129, 0}, 1, 0, 2, 0},
		{"nine groups, open", nine, 0, 0, 0, impl.BShort},
		{"nine groups, least, open", []byte{129, 128, 128, 128, 128, 128, 128, 128, 128}, 0, 0, 0, impl.BShort},
		{"ten groups", append(bytes.Clone(nine), 127), 0, 0, 0, impl.BForm},
		{"ten groups, the tenth open", append(bytes.Clone(nine), 255), 0, 0, 0, impl.BForm},
		{"2 to the 63, open", []byte{129, 128, 128, 128, 128, 128, 128, 128, 128, 128}, 0, 0, 0, impl.BForm},
		{"2 to the 63", []byte{129, 128, 128, 128, 128, 128, 128, 128, 128, 0}, 0, 0, 0, impl.BForm},
		{"the greatest", append(bytes.Repeat([]byte{255}, 8), 127, 9), 0, math.MaxInt64, 9, 0},
		{"many groups", bytes.Repeat([]byte{255}, 300), 0, 0, 0, impl.BForm},
	}
	for _, row := range rows {
		if n, next, code := impl.GetNum(row.b, row.at); n != row.n || next != row.next || code != row.code {
			t.Error(row.name, "got", n, next, code, "want", row.n, row.next, row.code)
		}
	}
}

func TestDigitsReadBack(t *testing.T) {
	var all []byte
	for i := range 256 {
		all = append(all, byte(i))
		text := impl.HexText([]byte{byte(i)})
		if b, ok := impl.HexRead(text); len(text) != 2 || !ok || !bytes.Equal(b, []byte{byte(i)}) {
			t.Error(i, text, b, ok)
		}
	}
	if b, ok := impl.HexRead(impl.HexText(all)); !ok || !bytes.Equal(b, all) {
		t.Error("all bytes", b, ok)
	}
	if s := impl.HexText([]byte{0, 9, 10, 15, 16, 171, 255}); s != "00090a0f10abff" {
		t.Error(s)
	}
	if s := impl.HexText(nil); s != "" {
		t.Error("nothing", s)
	}
	if b, ok := impl.HexRead(""); !ok || len(b) != 0 {
		t.Error("an empty text", b, ok)
	}
}

func TestDigitsThatAreNone(t *testing.T) {
	for c := range 256 {
		isDigit := strings.IndexByte("0123456789abcdef", byte(c)) >= 0
		for _, text := range []string{string([]byte{byte(c), '0'}), string([]byte{'0', byte(c)})} {
			if b, ok := impl.HexRead(text); ok != isDigit || !ok && len(b) != 0 {
				t.Error("byte", c, "got", b, ok)
			}
		}
	}
	for _, text := range []string{"0", "a", "abc", "0A", "AB", "0g", " 00", "00 ", "0x", "00\n", "é", "0000/0", "12:4", "ab`0"} {
		if b, ok := impl.HexRead(text); ok || len(b) != 0 {
			t.Errorf("%q: %v %v", text, b, ok)
		}
	}
}

func TestXorLaidOver(t *testing.T) {
	rows := []struct{ a, b, want []byte }{
		{nil, nil, nil},
		{nil, []byte{1, 2}, nil},
		{[]byte{1, 2}, nil, []byte{1, 2}},
		{[]byte{1, 2}, []byte{}, []byte{1, 2}},
		{[]byte{1, 2, 3}, []byte{255}, []byte{254, 253, 252}},
		{[]byte{1, 2, 3, 4, 5}, []byte{16, 32}, []byte{17, 34, 19, 36, 21}},
		{[]byte{1, 2}, []byte{1, 2}, []byte{0, 0}},
		{[]byte{1}, []byte{2, 4, 8}, []byte{3}},
	}
	for _, row := range rows {
		got := impl.Xor(row.a, row.b)
		if !bytes.Equal(got, row.want) {
			t.Error(row.a, row.b, "got", got)
		}
		if back := impl.Xor(got, row.b); !bytes.Equal(back, row.a) {
			t.Error(row.a, row.b, "twice laid over", back)
		}
	}
}
