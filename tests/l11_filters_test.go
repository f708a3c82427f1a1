package tests

import (
	"bytes"
	"math"
	"math/big"
	"math/rand"
	"slices"
	"testing"

	"loop.example/g00041/impl"
)

// slowPlace is one of the two places of a digest in a row, by the document's words.
func slowPlace(row int, k int64, x uint64, m int) int {
	digest := impl.HashAll([][]byte{[]byte("place"), impl.PutNum(int64(row)), impl.PutNum(k), eight(x)})
	rest := new(big.Int).Mod(new(big.Int).SetUint64(digest), big.NewInt(int64(m)))
	return int(rest.Int64())
}

func slowIn(row int, bits []byte, x uint64) bool {
	return bits[slowPlace(row, 0, x, len(bits))] == 1 && bits[slowPlace(row, 1, x, len(bits))] == 1
}

// slowRows are the rows from row on, as many as there would be without a limit.
func slowRows(row int, in []uint64, out []uint64) []impl.Row {
	if len(in) == 0 {
		return nil
	}
	bits := make([]byte, max(2, 2*len(in)))
	for _, x := range in {
		bits[slowPlace(row, 0, x, len(bits))], bits[slowPlace(row, 1, x, len(bits))] = 1, 1
	}
	var wrong []uint64
	for _, x := range out {
		if slowIn(row, bits, x) {
			wrong = append(wrong, x)
		}
	}
	return append([]impl.Row{{Bits: bits}}, slowRows(row+1, wrong, in)...)
}

func slowInCascade(c impl.Cascade, x uint64) bool {
	in := false
	for i, row := range c.Levels {
		if !slowIn(i, row.Bits, x) {
			return in
		}
		in = !in
	}
	return in
}

func sameRow(a impl.Row, b impl.Row) bool { return bytes.Equal(a.Bits, b.Bits) }

func sameCascade(a impl.Cascade, b impl.Cascade) bool {
	return slices.EqualFunc(a.Levels, b.Levels, sameRow)
}

func noCascade(c impl.Cascade) bool { return len(c.Levels) == 0 }

func cascadeOf(rows ...[]byte) impl.Cascade {
	var c impl.Cascade
	for _, bits := range rows {
		c.Levels = append(c.Levels, impl.Row{Bits: bits})
	}
	return c
}

// onesOf is a row of so many bits that are 1.
func onesOf(count int) []byte { return bytes.Repeat([]byte{1}, count) }

func unlikeDigests(r *rand.Rand, count int) []uint64 {
	seen := map[uint64]int{}
	var out []uint64
	for len(out) < count {
		x := oneOf(r, r.Uint64(), uint64(r.Intn(3000)))
		if seen[x]++; seen[x] == 1 {
			out = append(out, x)
		}
	}
	return out
}

// checkCascade holds two sets to their cascade: it is the stated one, and says yes of the one set and no of the other.
func checkCascade(t *testing.T, gone []uint64, good []uint64) impl.Cascade {
	t.Helper()
	c, ok := impl.Build(gone, good)
	if want := slowRows(0, gone, good); !ok || !slices.EqualFunc(c.Levels, want, sameRow) {
		t.Fatal("got", c, ok, "want", want, "of", gone, good)
	}
	for _, x := range gone {
		if !impl.InCascade(c, x) {
			t.Fatal("gone, but not in", x, gone, good)
		}
	}
	for _, x := range good {
		if impl.InCascade(c, x) {
			t.Fatal("good, but in", x, gone, good)
		}
	}
	return c
}

func TestFilterConstants(t *testing.T) {
	if got := []int64{impl.MaxFloors, impl.MaxSet, impl.FtBytes}; !slices.Equal(got, []int64{30, 300, 1}) {
		t.Error(got)
	}
}

func TestACascadeSaysYesOfTheOneSetAndNoOfTheOther(t *testing.T) {
	r := rand.New(rand.NewSource(111))
	sizes := []int{0, 1, 2, 3, 4, 5, 8, 13, 50, 299, 300}
	for _, goneCount := range sizes {
		for _, goodCount := range sizes {
			list := unlikeDigests(r, goneCount+goodCount)
			checkCascade(t, list[:goneCount], list[goneCount:])
		}
	}
	for range 300 {
		list := unlikeDigests(r, r.Intn(40))
		cut := r.Intn(len(list) + 1)
		c := checkCascade(t, list[:cut], list[cut:])
		for range 20 {
			if x := r.Uint64(); impl.InCascade(c, x) != slowInCascade(c, x) {
				t.Fatal("of a digest of neither", x, c)
			}
		}
	}
}

func TestDigestsAtTheEdges(t *testing.T) {
	checkCascade(t, []uint64{0, 1, math.MaxUint64, 1 << 63}, []uint64{1 << 32, 1<<63 - 1, 1<<63 + 1, 2})
	checkCascade(t, []uint64{math.MaxUint64}, []uint64{0})
	checkCascade(t, []uint64{0}, []uint64{math.MaxUint64})
}

func TestCascadesOfEmptySets(t *testing.T) {
	r := rand.New(rand.NewSource(112))
	for _, good := range [][]uint64{nil, {5}, unlikeDigests(r, 300)} {
		if c := checkCascade(t, nil, good); !noCascade(c) || impl.InCascade(c, 7) {
			t.Error("nothing is gone", c)
		}
	}
	for _, count := range []int{1, 2, 300} {
		if c := checkCascade(t, unlikeDigests(r, count), nil); len(c.Levels) != 1 || len(c.Levels[0].Bits) != 2*count {
			t.Error("nothing is good", c)
		}
	}
}

func TestTheOrderOfTheSetsDoesNotMatter(t *testing.T) {
	r := rand.New(rand.NewSource(113))
	list := unlikeDigests(r, 120)
	c := checkCascade(t, list[:50], list[50:])
	slices.Reverse(list[:50])
	slices.Sort(list[50:])
	if again := checkCascade(t, list[:50], list[50:]); !sameCascade(c, again) {
		t.Error("another cascade")
	}
}

func TestBuildRefuses(t *testing.T) {
	r := rand.New(rand.NewSource(114))
	list := unlikeDigests(r, 602)
	a, b := list[:301], list[301:]
	with := func(list []uint64, i int, x uint64) []uint64 {
		out := slices.Clone(list)
		out[i] = x
		return out
	}
	rows := []struct {
		why        string
		gone, good []uint64
		want       bool
	}{
		{"MaxSet and MaxSet", a[1:], b[1:], true}, {"one more is gone", a, b[1:], false}, {"one more is good", a[1:], b, false}, {"one more of both", a, b, false},
		{"one more is gone, nothing good", a, nil, false}, {"one more is good, nothing gone", nil, b, false}, {"MaxSet good, nothing gone", nil, b[1:], true},
		{"two gone alike", []uint64{1, 1}, nil, false}, {"two good alike", nil, []uint64{1, 1}, false}, {"two good alike, one gone", []uint64{2}, []uint64{1, 1}, false}, {"one in both", []uint64{1}, []uint64{1}, false},
		{"0 in both", []uint64{0}, []uint64{0}, false}, {"two of 0", []uint64{0, 0}, nil, false}, {"the same sets", a[:9], a[:9], false},
		{"the first and the last gone", with(a[:50], 49, a[0]), b[:9], false}, {"the first and the last good", a[:9], with(b[:50], 49, b[0]), false},
		{"the last gone is the last good", a[:50], with(b[:50], 49, a[49]), false}, {"the first gone is the last good", a[:50], with(b[:50], 49, a[0]), false}, {"the last gone is the first good", a[:50], with(b[:50], 0, a[49]), false},
		{"many alike", make([]uint64, 300), nil, false}, {"far too many", make([]uint64, 30000), make([]uint64, 30000), false},
	}
	for _, row := range rows {
		if c, ok := impl.Build(row.gone, row.good); ok != row.want || !ok && !noCascade(c) {
			t.Error(row.why, len(c.Levels), ok)
		}
	}
}

// One digest of each set is enough for many rows: each of two bits, in which both stand again and again.
func TestAsManyRowsAsMayBe(t *testing.T) {
	rows := []struct {
		gone, good uint64
		count      int
	}{{2216, 1387, 29}, {2001, 3901, 30}, {3808, 2865, 30}, {1959, 1337, 31}, {3924, 2865, 31}, {3808, 106, 32}, {3544, 948, 34}}
	for _, row := range rows {
		gone, good := []uint64{row.gone}, []uint64{row.good}
		if got := len(slowRows(0, gone, good)); got != row.count {
			t.Fatal(row, "has", got)
		}
		if row.count <= impl.MaxFloors {
			checkCascade(t, gone, good)
		} else if c, ok := impl.Build(gone, good); ok || !noCascade(c) {
			t.Error(row, "got", c, ok)
		}
	}
}

func TestInCascadeCountsRows(t *testing.T) {
	ones := func(count int) [][]byte { return slices.Repeat([][]byte{{1}}, count) }
	for count := range 35 {
		want := count%2 == 1 && count <= impl.MaxFloors
		if got := impl.InCascade(cascadeOf(ones(count)...), 9); got != want {
			t.Error(count, "rows: got", got)
		}
		for behind := range 3 {
			rows := slices.Concat(ones(count), slices.Repeat([][]byte{{0}}, 1), ones(behind))
			want := count%2 == 1 && len(rows) <= impl.MaxFloors
			if got := impl.InCascade(cascadeOf(rows...), 9); got != want {
				t.Error(count, "rows, and", behind, "behind another: got", got)
			}
		}
	}
}

func TestInCascadeOfRowsWithoutBits(t *testing.T) {
	rows := []struct {
		c    impl.Cascade
		want bool
	}{
		{cascadeOf(), false}, {cascadeOf(nil), false}, {cascadeOf([]byte{}), false}, {cascadeOf([]byte{1}), true}, {cascadeOf([]byte{1}, nil), false}, {cascadeOf(nil, []byte{1}), false},
		{cascadeOf([]byte{1}, []byte{0}, nil), false}, {cascadeOf([]byte{1}, []byte{0}, []byte{1}), true}, {cascadeOf([]byte{0}), false}, {cascadeOf([]byte{0}, []byte{1}), false},
		{cascadeOf([]byte{2}), false}, {cascadeOf([]byte{255}), false}, {cascadeOf([]byte{1}, []byte{3}), true}, {cascadeOf([]byte{1, 1}), true}, {cascadeOf([]byte{0, 0}), false},
	}
	for i, row := range rows {
		for _, x := range []uint64{0, 1, math.MaxUint64} {
			if got := impl.InCascade(row.c, x); got != row.want {
				t.Error(i, "got", got, row.c)
			}
		}
	}
}

func TestBothPlacesOfARowAreAsked(t *testing.T) {
	for x := range uint64(200) {
		for m := 1; m < 12; m++ {
			first, second := slowPlace(0, 0, x, m), slowPlace(0, 1, x, m)
			for _, place := range []int{first, second} {
				all := onesOf(m)
				all[place] = 0
				if impl.InCascade(cascadeOf(all), x) {
					t.Fatal("in, though the place", place, "is 0:", x, m)
				}
			}
			bits := make([]byte, m)
			bits[first], bits[second] = 1, 1
			if !impl.InCascade(cascadeOf(bits), x) {
				t.Fatal("not in", x, m)
			}
			// The second row has places of its own.
			if next := cascadeOf(onesOf(3), bits); impl.InCascade(next, x) == slowIn(1, bits, x) {
				t.Fatal("the second row", x, m)
			}
		}
	}
}

func TestCascadesAsBytes(t *testing.T) {
	rows := []struct {
		c    impl.Cascade
		want []byte
	}{
		{cascadeOf(), []byte{0}},
		{cascadeOf([]byte{1}), []byte{1, 1, 128}},
		{cascadeOf([]byte{0}), []byte{1, 1, 0}},
		{cascadeOf([]byte{0, 0, 0, 0, 0, 0, 1}), []byte{1, 7, 2}},
		{cascadeOf([]byte{1, 0, 0, 0, 0, 0, 0, 1}), []byte{1, 8, 129}},
		{cascadeOf([]byte{1, 0, 0, 0, 0, 0, 0, 1, 1}), []byte{1, 9, 129, 128}},
		{cascadeOf([]byte{0, 0, 0, 0, 0, 0, 0, 0, 0}), []byte{1, 9, 0, 0}},
		{cascadeOf([]byte{1, 1, 1}, []byte{1}), []byte{2, 3, 224, 1, 128}},
		{cascadeOf(onesOf(128)), append([]byte{1, 129, 0}, bytes.Repeat([]byte{255}, 16)...)},
		{cascadeOf(slices.Repeat([][]byte{{1}}, 30)...), append([]byte{30}, bytes.Repeat([]byte{1, 128}, 30)...)},
	}
	for i, row := range rows {
		if b, ok := impl.CascadeBytes(row.c); !ok || !bytes.Equal(b, row.want) {
			t.Error(i, "got", b, ok, "want", row.want)
		}
		if c, code := impl.ReadCascade(row.want); code != 0 || !sameCascade(c, row.c) {
			t.Error(i, "read", c, code)
		}
	}
}

func TestCascadesThatHaveNoBytes(t *testing.T) {
	const most = 8 * impl.MaxBytes
	rows := []struct {
		why  string
		c    impl.Cascade
		want bool
	}{
		{"a row without bits", cascadeOf(nil), false}, {"the last row without bits", cascadeOf([]byte{1}, nil), false}, {"the first row without bits", cascadeOf(nil, []byte{1}), false},
		{"a 2", cascadeOf([]byte{2}), false}, {"a 2 at last", cascadeOf([]byte{1, 0, 2}), false}, {"a 2 first", cascadeOf([]byte{2, 0, 1}), false}, {"a 255", cascadeOf([]byte{1}, []byte{0, 255}), false}, {"a 128", cascadeOf([]byte{128}), false},
		{"a 2 in the first row", cascadeOf([]byte{2}, []byte{1}), false},
		{"MaxFloors rows", cascadeOf(slices.Repeat([][]byte{{1}}, 30)...), true}, {"one more", cascadeOf(slices.Repeat([][]byte{{1}}, 31)...), false}, {"many", cascadeOf(slices.Repeat([][]byte{{1}}, 3000)...), false},
		{"as many bits as may be", cascadeOf(onesOf(most)), true}, {"one more bit", cascadeOf(onesOf(most + 1)), false}, {"one less", cascadeOf(onesOf(most - 1)), true},
		{"as many bits in two rows", cascadeOf(onesOf(most-1), onesOf(1)), true}, {"one more bit in two rows", cascadeOf(onesOf(most-1), onesOf(2)), false}, {"one more in the first row", cascadeOf(onesOf(most), onesOf(1)), false},
		{"as many bits in thirty rows", cascadeOf(append(slices.Repeat([][]byte{onesOf(5333)}, 29), onesOf(most-29*5333))...), true}, {"one more bit in thirty rows", cascadeOf(append(slices.Repeat([][]byte{onesOf(5333)}, 29), onesOf(most-29*5333+1))...), false},
	}
	for _, row := range rows {
		b, ok := impl.CascadeBytes(row.c)
		if ok != row.want || !ok && len(b) > 0 {
			t.Error(row.why, ok, len(b))
		}
		if !ok {
			continue
		}
		if c, code := impl.ReadCascade(b); code != 0 || !sameCascade(c, row.c) {
			t.Error(row.why, "is not read back", code)
		}
	}
}

func anyCascade(r *rand.Rand) impl.Cascade {
	var c impl.Cascade
	for range r.Intn(5) {
		bits := make([]byte, oneOf(r, 1, 7, 8, 9, 16, 127, 128, 1+r.Intn(300)))
		for i := range bits {
			bits[i] = byte(r.Intn(2))
		}
		c.Levels = append(c.Levels, impl.Row{Bits: bits})
	}
	return c
}

// checkOtherBytes holds bytes that are not those of c to being refused, or to being those of another cascade.
func checkOtherBytes(t *testing.T, c impl.Cascade, b []byte) {
	t.Helper()
	got, code := impl.ReadCascade(b)
	if code == impl.FtBytes && noCascade(got) {
		return
	}
	if again, ok := impl.CascadeBytes(got); code != 0 || !ok || !bytes.Equal(again, b) || sameCascade(got, c) {
		t.Fatal("got", got, code, "of", b)
	}
}

func TestCascadesAreReadBack(t *testing.T) {
	r := rand.New(rand.NewSource(115))
	for range 300 {
		c := anyCascade(r)
		b, ok := impl.CascadeBytes(c)
		if got, code := impl.ReadCascade(b); !ok || code != 0 || !sameCascade(got, c) {
			t.Fatal("got", got, code, ok, "want", c)
		}
		for cut := range b {
			if got, code := impl.ReadCascade(b[:cut]); code != impl.FtBytes || !noCascade(got) {
				t.Fatal("cut at", cut, got, code, b)
			}
		}
		for _, more := range []byte{0, 1, 128, 255} {
			if got, code := impl.ReadCascade(append(bytes.Clone(b), more)); code != impl.FtBytes || !noCascade(got) {
				t.Fatal("with", more, "behind it", got, code)
			}
		}
		for i := range b {
			for bit := range 8 {
				other := bytes.Clone(b)
				other[i] ^= 1 << bit
				checkOtherBytes(t, c, other)
			}
		}
	}
}

func TestBuiltCascadesAreReadBack(t *testing.T) {
	r := rand.New(rand.NewSource(116))
	for _, count := range []int{1, 9, 300} {
		list := unlikeDigests(r, 2*count)
		c := checkCascade(t, list[:count], list[count:])
		b, ok := impl.CascadeBytes(c)
		got, code := impl.ReadCascade(b)
		if !ok || code != 0 || !sameCascade(got, c) {
			t.Fatal(count, ok, code)
		}
		for i, x := range list {
			if impl.InCascade(got, x) != (i < count) {
				t.Fatal("read back, it says otherwise of", x)
			}
		}
	}
}

func TestBytesThatAreNoCascade(t *testing.T) {
	const most = 8 * impl.MaxBytes
	full := append(numbers(1, most), make([]byte, impl.MaxBytes)...)
	if c, code := impl.ReadCascade(full); code != 0 || len(c.Levels) != 1 || len(c.Levels[0].Bits) != most {
		t.Error("as many bits as may be", code)
	}
	rows := []struct {
		why string
		b   []byte
	}{
		{"none", nil}, {"a number in another form", []byte{128, 0}}, {"the number of rows in another form", []byte{128, 1, 1, 128}}, {"the number of bits in another form", []byte{1, 128, 1, 128}},
		{"a number without an end", []byte{129}}, {"bits without an end", []byte{1, 129}}, {"a row that lacks", []byte{1}}, {"a row without bits", []byte{1, 0}}, {"a row without bits, and a byte", []byte{1, 0, 0}}, {"a second row without bits", []byte{2, 1, 128, 0}}, {"bits that lack", []byte{1, 1}}, {"some bits that lack", []byte{1, 9, 0}},
		{"no rows, and a byte", []byte{0, 0}}, {"a second row that lacks", []byte{2, 1, 128}}, {"one row more", []byte{1, 1, 128, 1, 128}},
		{"one bit, filled up with 1", []byte{1, 1, 129}}, {"one bit, all 1", []byte{1, 1, 255}}, {"one bit, a filled up one beside it", []byte{1, 1, 64}}, {"seven bits, filled up with 1", []byte{1, 7, 1}}, {"nine bits, filled up with 1", []byte{1, 9, 0, 64}}, {"nine bits, filled up with 1 at last", []byte{1, 9, 0, 1}},
		{"a filled up bit of the first row", []byte{2, 1, 1, 1, 128}},
		{"one row more than may be", append([]byte{31}, bytes.Repeat([]byte{1, 128}, 31)...)}, {"as many rows as a number has", append(impl.PutNum(math.MaxInt64), 1, 128)},
		{"one bit more than may be", append(numbers(1, most+1), make([]byte, impl.MaxBytes+1)...)}, {"one bit more in two rows", slices.Concat(numbers(2, most), make([]byte, impl.MaxBytes), []byte{1, 0})},
		{"2 to the 62 bits", append(numbers(1, 1<<62), 1, 2, 3)}, {"as many bits as a number has", append(numbers(1, math.MaxInt64), 1, 2, 3)}, {"7 below it", append(numbers(1, math.MaxInt64-7), 1, 2, 3)},
		{"a number that is too great", append([]byte{1}, bytes.Repeat([]byte{255}, 10)...)}, {"many bytes", make([]byte, 100000)},
	}
	for _, row := range rows {
		if c, code := impl.ReadCascade(row.b); code != impl.FtBytes || !noCascade(c) {
			t.Error(row.why, c, code)
		}
	}
}

func TestAllShortBytes(t *testing.T) {
	read := 0
	try := func(b ...byte) {
		if c, code := impl.ReadCascade(b); code == 0 {
			read++
			if again, ok := impl.CascadeBytes(c); !ok || !bytes.Equal(again, b) {
				t.Fatal("read", c, "of", b)
			}
		} else if code != impl.FtBytes || !noCascade(c) {
			t.Fatal("got", c, code, "of", b)
		}
	}
	for first := range 256 {
		try(byte(first))
		for second := range 256 {
			try(byte(first), byte(second))
			for third := range 256 {
				if first < 3 || first == 128 || first == 129 {
					try(byte(first), byte(second), byte(third))
				}
			}
		}
	}
	// The one without rows, and of one row of 1 .. 8 bits as many as there are.
	if want := 1 + 510; read != want {
		t.Error("read", read, "want", want)
	}
}
