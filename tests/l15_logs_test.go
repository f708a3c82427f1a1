package tests

import (
	"bytes"
	"math"
	"math/bits"
	"math/rand"
	"slices"
	"testing"

	"loop.example/g00041/impl"
)

func TestEntryHash(t *testing.T) {
	if impl.MaxLog != 200 {
		t.Error("MaxLog", impl.MaxLog)
	}
	if got := impl.EntryHash([]byte("x")); got != 15912850757655004116 {
		t.Error("x", got)
	}
	rows := [][]byte{nil, {}, {0}, {0, 0}, []byte("entry"), []byte("an entry"), bytes.Repeat([]byte{7}, 127), bytes.Repeat([]byte{7}, 128), bytes.Repeat([]byte{255}, 50000)}
	seen := map[uint64]int{}
	for _, row := range rows {
		got := impl.EntryHash(row)
		if want := impl.HashAll([][]byte{[]byte("entry"), row}); got != want {
			t.Error(len(row), "got", got, "want", want)
		}
		seen[got]++
	}
	if len(seen) != len(rows)-1 {
		t.Error("unlike entries have one digest, or no bytes have two", seen)
	}
	if pair := append(eight(1), eight(2)...); impl.EntryHash(pair) == slowPair(1, 2) {
		t.Error("an entry has the digest of a pair")
	}
}

func TestLogRoot(t *testing.T) {
	rows := []struct {
		row  []uint64
		want uint64
	}{
		{nil, 0}, {[]uint64{}, 0}, {[]uint64{0}, 0}, {[]uint64{9}, 9}, {[]uint64{math.MaxUint64}, math.MaxUint64}, {[]uint64{1, 2}, 1463790861407302891},
		{[]uint64{1, 2, 3}, slowPair(slowPair(1, 2), 3)}, {[]uint64{1, 2, 3, 4}, slowPair(slowPair(1, 2), slowPair(3, 4))},
		{[]uint64{1, 2, 3, 4, 5}, slowPair(slowPair(slowPair(1, 2), slowPair(3, 4)), 5)},
		{[]uint64{1, 2, 3, 4, 5, 6}, slowPair(slowPair(slowPair(1, 2), slowPair(3, 4)), slowPair(5, 6))},
		{[]uint64{1, 2, 3, 4, 5, 6, 7}, slowPair(slowPair(slowPair(1, 2), slowPair(3, 4)), slowPair(slowPair(5, 6), 7))},
		{[]uint64{0, 0}, slowPair(0, 0)}, {[]uint64{2, 1}, slowPair(2, 1)},
	}
	for _, row := range rows {
		if got, ok := impl.LogRoot(row.row); !ok || got != row.want {
			t.Error(row.row, "got", got, ok, "want", row.want)
		}
	}
	for n := range 201 {
		if got, ok := impl.LogRoot(logRow(n)); !ok || got != slowRoot(logRow(n)) {
			t.Error(n, "digests: got", got, ok)
		}
	}
	for _, n := range []int{201, 202, 256, 400, 50000} {
		if got, ok := impl.LogRoot(make([]uint64, n)); ok || got != 0 {
			t.Error(n, "digests: got", got, ok)
		}
	}
}

func TestUnlikeRowsHaveUnlikeRoots(t *testing.T) {
	seen := map[uint64]int{}
	for _, n := range rowLengths() {
		row := logRow(n)
		root, _ := impl.LogRoot(row)
		seen[root]++
		for at := range row {
			bent := slices.Clone(row)
			bent[at] ^= 1 << (at % 64)
			if got, _ := impl.LogRoot(bent); got == root {
				t.Fatal(n, "digests, bent at", at)
			}
			if at == 0 {
				continue
			}
			bent = slices.Clone(row)
			bent[at], bent[at-1] = row[at-1], row[at]
			if got, _ := impl.LogRoot(bent); got == root {
				t.Fatal(n, "digests, two changed at", at)
			}
		}
	}
	if len(seen) != len(rowLengths()) {
		t.Error("rows of unlike lengths have one root")
	}
}

func TestIncludeOfEachPosition(t *testing.T) {
	r := rand.New(rand.NewSource(151))
	for _, n := range rowLengths() {
		for _, row := range [][]uint64{logRow(n), make([]uint64, n), slices.Repeat([]uint64{r.Uint64()}, n)} {
			root := slowRoot(row)
			for i := range n {
				proof, ok := impl.Include(row, int64(i))
				if !ok || !slices.Equal(proof, slowInclude(row, i)) {
					t.Fatal(n, i, "got", proof, ok, "want", slowInclude(row, i))
				}
				if !impl.CheckInclude(root, int64(n), int64(i), row[i], proof) {
					t.Fatal(n, i, "is not shown by", proof)
				}
			}
		}
	}
}

func TestIncludeTellsTheLowestFirst(t *testing.T) {
	row := []uint64{1, 2, 3, 4, 5, 6, 7}
	four, two := slowPair(slowPair(1, 2), slowPair(3, 4)), slowPair(5, 6)
	rows := []struct {
		row  []uint64
		i    int64
		want []uint64
	}{
		{row[:1], 0, nil}, {row[:2], 0, []uint64{2}}, {row[:2], 1, []uint64{1}}, {row[:3], 0, []uint64{2, 3}}, {row[:3], 1, []uint64{1, 3}}, {row[:3], 2, []uint64{slowPair(1, 2)}},
		{row, 0, []uint64{2, slowPair(3, 4), slowPair(two, 7)}}, {row, 3, []uint64{3, slowPair(1, 2), slowPair(two, 7)}},
		{row, 4, []uint64{6, 7, four}}, {row, 5, []uint64{5, 7, four}}, {row, 6, []uint64{two, four}}, {row[:5], 4, []uint64{four}},
	}
	for _, x := range rows {
		if got, ok := impl.Include(x.row, x.i); !ok || !slices.Equal(got, x.want) {
			t.Error(len(x.row), x.i, "got", got, ok, "want", x.want)
		}
	}
}

func TestIncludeRefuses(t *testing.T) {
	refuse := func(row []uint64, i int64) {
		t.Helper()
		if got, ok := impl.Include(row, i); ok || len(got) != 0 {
			t.Error(len(row), i, "got", got, ok)
		}
	}
	for _, n := range []int{0, 1, 2, 3, 7, 8, 199, 200} {
		for _, i := range append(farNumbers(), int64(n), int64(n)+1, 201) {
			refuse(logRow(n), i)
		}
	}
	for _, i := range []int64{-1, 0, 1, 199, 200, 201} {
		refuse(make([]uint64, 201), i)
		refuse(make([]uint64, 20000), i)
	}
	refuse(nil, 0)
	refuse([]uint64{}, 0)
	if got, ok := impl.Include(logRow(200), 199); !ok || !slices.Equal(got, slowInclude(logRow(200), 199)) {
		t.Error("the last of MaxLog", got, ok)
	}
}

// wantInclude holds CheckInclude to what climbing by positions says, and to what it must say.
func wantInclude(t *testing.T, why string, want bool, root uint64, n int64, i int64, x uint64, proof []uint64) {
	t.Helper()
	if got := impl.CheckInclude(root, n, i, x, proof); got != want {
		t.Error(why, "got", got, "of", n, i, x, proof)
	}
	if slowCheckInclude(root, n, i, x, proof) != want {
		t.Error(why, "climbing says otherwise of", n, i, x, proof)
	}
}

func TestNobodyCanShowAnotherEntry(t *testing.T) {
	for _, n := range rowLengths() {
		row := logRow(n)
		root, count := slowRoot(row), int64(n)
		var proofs [][]uint64
		for i := range n {
			proofs = append(proofs, slowInclude(row, i))
		}
		for i := 0; i < n; i += 1 + n/20 {
			proof, at := proofs[i], int64(i)
			wantInclude(t, "right", true, root, count, at, row[i], proof)
			for _, bent := range bentLists(proof) {
				wantInclude(t, "a bent proof", false, root, count, at, row[i], bent)
			}
			for _, x := range []uint64{0, row[i] ^ 1, row[i] ^ 1<<63, impl.EntryHash([]byte("another")), row[(i+1)%n]} {
				wantInclude(t, "another digest", x == row[i], root, count, at, x, proof)
			}
			for bit := range 64 {
				wantInclude(t, "another root", false, root^1<<bit, count, at, row[i], proof)
			}
			for j := range n {
				if j != i {
					wantInclude(t, "another position", false, root, count, int64(j), row[i], proof)
					wantInclude(t, "another position's proof", false, root, count, at, row[i], proofs[j])
					wantInclude(t, "another position's digest and proof", false, root, count, at, row[j], proofs[j])
				}
			}
			other := bentRow(n, (i+1)%n)
			if n > 1 {
				wantInclude(t, "another row's proof", false, root, count, at, row[i], slowInclude(other, i))
			}
		}
	}
}

// A proof says nothing of how long a row is but by how many digests it has: what climbing says counts.
func TestProofsOfARowOfAnotherLength(t *testing.T) {
	seen := map[bool]int{}
	for _, n := range []int{1, 2, 3, 4, 5, 6, 7, 8, 9, 16, 17, 31, 33, 100, 200} {
		row := logRow(n)
		root := slowRoot(row)
		for i := 0; i < n; i += 1 + n/10 {
			proof := slowInclude(row, i)
			for other := int64(-1); other <= 202; other++ {
				want := slowCheckInclude(root, other, int64(i), row[i], proof)
				if got := impl.CheckInclude(root, other, int64(i), row[i], proof); got != want {
					t.Error(n, i, "as one of", other, "got", got)
				}
				if want && bits.Len64(uint64(other-1)) != bits.Len64(uint64(n-1)) {
					t.Error(n, i, "is taken as one of", other)
				}
				seen[want]++
			}
		}
	}
	if seen[true] < 50 || seen[false] < 1000 {
		t.Error("too few of some", seen)
	}
	if !impl.CheckInclude(slowRoot([]uint64{1, 2, 3}), 4, 0, 1, []uint64{2, 3}) || impl.CheckInclude(slowRoot([]uint64{1, 2, 3}), 4, 2, 3, []uint64{slowPair(1, 2)}) {
		t.Error("a row of three as one of four")
	}
}

func TestCheckIncludeAtItsLimits(t *testing.T) {
	wantInclude(t, "one of one", true, 5, 1, 0, 5, nil)
	wantInclude(t, "0 of one", true, 0, 1, 0, 0, []uint64{})
	wantInclude(t, "one of one, with a proof", false, 5, 1, 0, 5, []uint64{5})
	wantInclude(t, "another one", false, 5, 1, 0, 6, nil)
	wantInclude(t, "none of none", false, 0, 0, 0, 0, nil)
	wantInclude(t, "none of none, at -1", false, 0, 0, -1, 0, nil)
	wantInclude(t, "one of two without a proof", false, 5, 2, 0, 5, nil)
	row := logRow(200)
	root := slowRoot(row)
	for _, i := range []int{0, 127, 128, 191, 192, 198, 199} {
		wantInclude(t, "of MaxLog", true, root, 200, int64(i), row[i], slowInclude(row, i))
	}
	long := logRow(201)
	wantInclude(t, "of one more", false, slowRoot(long), 201, 200, long[200], slowInclude(long, 200))
	wantInclude(t, "of one more, the first", false, slowRoot(long), 201, 0, long[0], slowInclude(long, 0))
	for _, far := range farNumbers() {
		wantInclude(t, "far n", false, root, far, 0, row[0], slowInclude(row, 0))
		wantInclude(t, "far n, far i", false, root, far, far-1, row[0], slowInclude(row, 0))
		wantInclude(t, "far i", false, root, 200, far, row[0], slowInclude(row, 0))
		wantInclude(t, "far i of one", false, 5, 1, far, 5, nil)
	}
	for _, i := range []int64{-1, 200, 201, 256} {
		wantInclude(t, "beside the row", false, root, 200, i, row[199], slowInclude(row, 199))
	}
	wantInclude(t, "a long proof", false, root, 200, 0, row[0], make([]uint64, 50000))
}

func TestExtendOfEachBeginning(t *testing.T) {
	r := rand.New(rand.NewSource(152))
	for _, n := range rowLengths() {
		for _, row := range [][]uint64{logRow(n), make([]uint64, n), slices.Repeat([]uint64{r.Uint64()}, n)} {
			root := slowRoot(row)
			for m := 1; m <= n; m++ {
				proof, ok := impl.Extend(row, int64(m))
				if !ok || !slices.Equal(proof, slowExtend(row, m)) {
					t.Fatal(n, m, "got", proof, ok, "want", slowExtend(row, m))
				}
				if !impl.CheckExtend(slowRoot(row[:m]), int64(m), root, int64(n), proof) {
					t.Fatal(n, m, "is not shown by", proof)
				}
			}
		}
	}
}

// A beginning that is a power of two long is a whole part that begins the row: its root is known and not told.
// Any other ends with a part whose root is told first.
func TestBeginningsThatAreAWholePart(t *testing.T) {
	row := []uint64{1, 2, 3, 4, 5, 6, 7, 8}
	four, two, last := slowPair(slowPair(1, 2), slowPair(3, 4)), slowPair(5, 6), slowPair(7, 8)
	rows := []struct {
		n    int
		m    int64
		want []uint64
	}{
		{1, 1, nil}, {2, 1, []uint64{2}}, {2, 2, nil}, {3, 1, []uint64{2, 3}}, {3, 2, []uint64{3}}, {3, 3, nil}, {4, 2, []uint64{slowPair(3, 4)}}, {4, 3, []uint64{3, 4, slowPair(1, 2)}}, {4, 4, nil},
		{5, 4, []uint64{5}}, {6, 4, []uint64{two}}, {7, 4, []uint64{slowPair(two, 7)}}, {8, 4, []uint64{slowPair(two, last)}}, {5, 5, nil}, {8, 8, nil},
		{6, 5, []uint64{5, 6, four}}, {7, 5, []uint64{5, 6, 7, four}}, {7, 6, []uint64{two, 7, four}}, {8, 6, []uint64{two, last, four}}, {8, 7, []uint64{7, 8, two, four}}, {8, 5, []uint64{5, 6, last, four}},
		{8, 1, []uint64{2, slowPair(3, 4), slowPair(two, last)}}, {8, 2, []uint64{slowPair(3, 4), slowPair(two, last)}}, {8, 3, []uint64{3, 4, slowPair(1, 2), slowPair(two, last)}}, {7, 3, []uint64{3, 4, slowPair(1, 2), slowPair(two, 7)}},
	}
	for _, x := range rows {
		got, ok := impl.Extend(row[:x.n], x.m)
		if !ok || !slices.Equal(got, x.want) {
			t.Error(x.n, x.m, "got", got, ok, "want", x.want)
		}
		if !impl.CheckExtend(slowRoot(row[:x.m]), x.m, slowRoot(row[:x.n]), int64(x.n), x.want) {
			t.Error(x.n, x.m, "is not shown")
		}
	}
	for _, n := range rowLengths() {
		for m := 1; m < n; m++ {
			proof, _ := impl.Extend(logRow(n), int64(m))
			// The root of the part with which the beginning ends.
			end := 1 << bits.TrailingZeros(uint(m))
			told := len(proof) > 0 && proof[0] == slowRoot(logRow(n)[m-end:m])
			if whole := end == m; told == whole {
				t.Error(n, m, "told:", told)
			}
		}
	}
}

func TestExtendRefuses(t *testing.T) {
	refuse := func(row []uint64, m int64) {
		t.Helper()
		if got, ok := impl.Extend(row, m); ok || len(got) != 0 {
			t.Error(len(row), m, "got", got, ok)
		}
	}
	for _, n := range []int{0, 1, 2, 3, 7, 8, 199, 200} {
		for _, m := range append(farNumbers(), 0, int64(n)+1, 201) {
			refuse(logRow(n), m)
		}
	}
	for _, m := range []int64{-1, 0, 1, 128, 200, 201, 202} {
		refuse(make([]uint64, 201), m)
		refuse(make([]uint64, 20000), m)
	}
	refuse(nil, 1)
	if got, ok := impl.Extend(logRow(200), 200); !ok || len(got) != 0 {
		t.Error("all of MaxLog", got, ok)
	}
	if got, ok := impl.Extend(logRow(200), 199); !ok || !slices.Equal(got, slowExtend(logRow(200), 199)) {
		t.Error("all but one of MaxLog", got, ok)
	}
}

func wantExtend(t *testing.T, why string, want bool, old uint64, m int64, root uint64, n int64, proof []uint64) {
	t.Helper()
	if got := impl.CheckExtend(old, m, root, n, proof); got != want {
		t.Error(why, "got", got, "of", m, n, proof)
	}
	if slowCheckExtend(old, m, root, n, proof) != want {
		t.Error(why, "climbing says otherwise of", m, n, proof)
	}
}

func TestNobodyCanShowAnotherPast(t *testing.T) {
	for _, n := range rowLengths() {
		row := logRow(n)
		root, count := slowRoot(row), int64(n)
		// There is no proof of a beginning without digests.
		proofs, roots := [][]uint64{nil}, []uint64{0}
		for m := 1; m <= n; m++ {
			proofs, roots = append(proofs, slowExtend(row, m)), append(roots, slowRoot(row[:m]))
		}
		for m := 1; m <= n; m += 1 + n/20 {
			proof, old, size := proofs[m], roots[m], int64(m)
			wantExtend(t, "right", true, old, size, root, count, proof)
			for _, bent := range bentLists(proof) {
				wantExtend(t, "a bent proof", false, old, size, root, count, bent)
			}
			for bit := range 64 {
				wantExtend(t, "another old root", false, old^1<<bit, size, root, count, proof)
				wantExtend(t, "another root", false, old, size, root^1<<bit, count, proof)
			}
			wantExtend(t, "both the same", old == root, root, size, root, count, proof)
			wantExtend(t, "no old root", false, 0, size, root, count, proof)
			for other := 1; other <= n; other++ {
				if other != m {
					wantExtend(t, "another beginning's proof", false, old, size, root, count, proofs[other])
					wantExtend(t, "another beginning's length", false, old, int64(other), root, count, proof)
					wantExtend(t, "another beginning's root", false, roots[other], size, root, count, proof)
				}
			}
			// A beginning with another digest, and each proof that somebody could make for it.
			for at := 0; at < m; at += 1 + m/5 {
				bent := bentRow(n, at)
				forged := slowRoot(bent[:m])
				for _, shown := range [][]uint64{proof, slowExtend(bent, m), nil} {
					wantExtend(t, "another past", false, forged, size, root, count, shown)
				}
				wantExtend(t, "another past in both", true, forged, size, slowRoot(bent), count, slowExtend(bent, m))
			}
		}
	}
}

func TestExtensionsOfOtherLengths(t *testing.T) {
	seen := map[bool]int{}
	for _, n := range []int{1, 2, 3, 4, 5, 6, 7, 8, 9, 16, 17, 33, 100, 200} {
		row := logRow(n)
		root := slowRoot(row)
		for m := 1; m <= n; m += 1 + n/8 {
			proof, old := slowExtend(row, m), slowRoot(row[:m])
			for other := int64(-1); other <= 202; other++ {
				want := slowCheckExtend(old, int64(m), root, other, proof)
				if got := impl.CheckExtend(old, int64(m), root, other, proof); got != want {
					t.Error(n, m, "as one of", other, "got", got)
				}
				seen[want]++
			}
		}
	}
	if seen[true] < 50 || seen[false] < 1000 {
		t.Error("too few of some", seen)
	}
}

func TestCheckExtendAtItsLimits(t *testing.T) {
	wantExtend(t, "one of one", true, 5, 1, 5, 1, nil)
	wantExtend(t, "0 of one", true, 0, 1, 0, 1, []uint64{})
	wantExtend(t, "another one", false, 5, 1, 6, 1, nil)
	wantExtend(t, "one of one, with a proof", false, 5, 1, 5, 1, []uint64{5})
	wantExtend(t, "none of none", false, 0, 0, 0, 0, nil)
	wantExtend(t, "none of one", false, 0, 0, 5, 1, nil)
	wantExtend(t, "none of one, with it as the proof", false, 0, 0, 5, 1, []uint64{5})
	wantExtend(t, "one of two", true, 1, 1, slowPair(1, 2), 2, []uint64{2})
	wantExtend(t, "two of one", false, slowPair(1, 2), 2, 1, 1, []uint64{2})
	wantExtend(t, "three without a proof", false, slowRoot([]uint64{1, 2, 3}), 3, slowRoot([]uint64{1, 2, 3, 4}), 4, nil)
	row := logRow(200)
	root := slowRoot(row)
	for _, m := range []int{1, 2, 127, 128, 129, 192, 198, 199, 200} {
		wantExtend(t, "of MaxLog", true, slowRoot(row[:m]), int64(m), root, 200, slowExtend(row, m))
	}
	long := logRow(201)
	for _, m := range []int{1, 128, 200, 201} {
		wantExtend(t, "of one more", false, slowRoot(long[:m]), int64(m), slowRoot(long), 201, slowExtend(long, m))
	}
	wantExtend(t, "more than all", false, root, 201, root, 200, nil)
	for _, far := range farNumbers() {
		wantExtend(t, "far m", false, root, far, root, 200, nil)
		wantExtend(t, "far n", false, row[0], 1, root, far, slowExtend(row, 1))
		wantExtend(t, "far m and n", false, root, far, root, far, nil)
		wantExtend(t, "one apart", false, root, far-1, root, far, []uint64{root})
	}
	wantExtend(t, "a long proof", false, row[0], 1, root, 200, make([]uint64, 50000))
}

func TestProofsOfAnyDigests(t *testing.T) {
	r := rand.New(rand.NewSource(153))
	few := []uint64{0, 1, 2, slowPair(0, 1), slowPair(1, 2), slowPair(0, 0), slowPair(slowPair(0, 1), 2)}
	seen := map[bool]int{}
	for range 100000 {
		var proof []uint64
		for range r.Intn(4) {
			proof = append(proof, oneOf(r, few...))
		}
		a, b, n, m := oneOf(r, few...), oneOf(r, few...), r.Int63n(7), r.Int63n(7)
		want := slowCheckInclude(a, n, m, b, proof)
		if got := impl.CheckInclude(a, n, m, b, proof); got != want {
			t.Fatal("included: got", got, a, n, m, b, proof)
		}
		seen[want]++
		want = slowCheckExtend(a, m, b, n, proof)
		if got := impl.CheckExtend(a, m, b, n, proof); got != want {
			t.Fatal("extended: got", got, a, m, b, n, proof)
		}
		seen[want]++
	}
	if seen[true] < 500 {
		t.Error("too few are taken", seen)
	}
}

func TestTile(t *testing.T) {
	for _, n := range append(rowLengths(), 0) {
		row := logRow(n)
		for level := int64(-1); level <= 4; level++ {
			for _, index := range []int64{-1, 0, 1, 2, 3, 4, 11, 12, 13, 24, 25, 48, 49, 50, 51, 199, 200, 201} {
				got, ok := impl.Tile(row, level, index)
				want := slowTile(row, level, index)
				if ok != (len(want) > 0) || !slices.Equal(got, want) {
					t.Error(n, level, index, "got", got, ok, "want", want)
				}
			}
		}
	}
}

func TestEveryTileOfALongRow(t *testing.T) {
	row := logRow(200)
	counts := map[int64]int{}
	for level := range int64(4) {
		for index := range int64(201) {
			got, ok := impl.Tile(row, level, index)
			if ok {
				counts[level] += len(got)
			}
			if want := slowTile(row, level, index); ok != (len(want) > 0) || !slices.Equal(got, want) {
				t.Error(level, index, "got", got, ok, "want", want)
			}
		}
	}
	if counts[0] != 200 || counts[1] != 50 || counts[2] != 12 || counts[3] != 3 {
		t.Error("how many parts are whole:", counts)
	}
}

func TestTilesThatAreWholeAndNot(t *testing.T) {
	rows := []struct {
		n            int
		level, index int64
		count        int
	}{
		{0, 0, 0, 0}, {1, 0, 0, 1}, {3, 0, 0, 3}, {4, 0, 0, 4}, {5, 0, 0, 4}, {4, 0, 1, 0}, {5, 0, 1, 1}, {8, 0, 1, 4}, {3, 1, 0, 0}, {4, 1, 0, 1}, {7, 1, 0, 1}, {8, 1, 0, 2}, {15, 1, 0, 3}, {16, 1, 0, 4}, {19, 1, 1, 0}, {20, 1, 1, 1},
		{15, 2, 0, 0}, {16, 2, 0, 1}, {63, 2, 0, 3}, {64, 2, 0, 4}, {79, 2, 1, 0}, {80, 2, 1, 1}, {63, 3, 0, 0}, {64, 3, 0, 1}, {127, 3, 0, 1}, {128, 3, 0, 2}, {191, 3, 0, 2}, {192, 3, 0, 3}, {200, 3, 0, 3}, {200, 3, 1, 0},
		{200, 0, 49, 4}, {199, 0, 49, 3}, {197, 0, 49, 1}, {196, 0, 49, 0}, {200, 0, 50, 0}, {200, 1, 12, 2}, {200, 2, 3, 0}, {200, 2, 2, 4},
	}
	for _, row := range rows {
		got, ok := impl.Tile(logRow(row.n), row.level, row.index)
		if ok != (row.count > 0) || len(got) != row.count {
			t.Error(row, "got", len(got), ok)
		}
	}
}

func TestTileRefuses(t *testing.T) {
	refuse := func(row []uint64, level int64, index int64) {
		t.Helper()
		if got, ok := impl.Tile(row, level, index); ok || len(got) != 0 {
			t.Error(len(row), level, index, "got", got, ok)
		}
	}
	for _, far := range append(farNumbers(), 4, 5, 16, 31, 32, 33, 63, 64, 65) {
		refuse(logRow(200), far, 0)
	}
	for _, far := range append(farNumbers(), 50, 200, 201, 1<<62+1) {
		for level := range int64(4) {
			refuse(logRow(200), level, far)
		}
	}
	for level := range int64(4) {
		refuse(make([]uint64, 201), level, 0)
		refuse(make([]uint64, 20000), level, 0)
		refuse(make([]uint64, 20000), level, 200)
		refuse(nil, level, 0)
	}
}

func wantTiled(t *testing.T, why string, tiles []impl.TileOf, n int64, root uint64, taken int64) {
	t.Helper()
	if got, count := impl.Tiled(tiles, n); got != root || count != taken {
		t.Error(why, n, "got", got, count, "want", root, taken)
	}
}

// partsOfLevels is how few parts of these sizes a row has, the greatest first; what is left over at each size goes on.
func partsOfLevels(n int64, sizes ...int64) int64 {
	count := int64(0)
	for _, size := range sizes {
		count += n / size
		n %= size
	}
	return count
}

func TestTilesHaveTheRoot(t *testing.T) {
	for n := 1; n <= 200; n++ {
		row := logRow(n)
		root, count := slowRoot(row), int64(n)
		all := tilesOf(row, 0, 1, 2, 3)
		wantTiled(t, "all tiles", all, count, root, partsOfLevels(count, 64, 16, 4, 1))
		wantTiled(t, "the lowest level alone", tilesOf(row, 0), count, root, count)
		wantTiled(t, "the two lowest levels", tilesOf(row, 1, 0), count, root, partsOfLevels(count, 4, 1))
		wantTiled(t, "the third and the lowest", tilesOf(row, 0, 2), count, root, partsOfLevels(count, 16, 1))
		slices.Reverse(all)
		wantTiled(t, "in another order", all, count, root, partsOfLevels(count, 64, 16, 4, 1))
		var made []impl.TileOf
		for _, tile := range all {
			hashes, ok := impl.Tile(row, tile.Level, tile.Index)
			if !ok {
				t.Fatal("no tile", tile)
			}
			made = append(made, impl.TileOf{Level: tile.Level, Index: tile.Index, Hashes: hashes})
		}
		wantTiled(t, "as Tile tells them", made, count, root, partsOfLevels(count, 64, 16, 4, 1))
		// Tiles of a longer row have what a shorter one needs.
		if n > 1 {
			wantTiled(t, "of a shorter row", all, count-1, slowRoot(row[:n-1]), partsOfLevels(count-1, 64, 16, 4, 1))
		}
	}
}

func TestTilesThatLackAPart(t *testing.T) {
	for _, n := range []int{1, 2, 4, 5, 16, 21, 64, 85, 200} {
		row := logRow(n)
		root, count := slowRoot(row), int64(n)
		low := tilesOf(row, 0)
		for i := range low {
			wantTiled(t, "a tile is missing", slices.Delete(copyTiles(low), i, i+1), count, 0, -1)
			short := copyTiles(low)
			short[i].Hashes = short[i].Hashes[:len(short[i].Hashes)-1]
			wantTiled(t, "a Hash is missing", short, count, 0, -1)
		}
		wantTiled(t, "the higher levels alone", tilesOf(row, 1, 2, 3), count, map[bool]uint64{true: root}[n%4 == 0], map[bool]int64{true: partsOfLevels(count, 64, 16, 4), false: -1}[n%4 == 0])
		all := tilesOf(row, 0, 1, 2, 3)
		for i, tile := range all {
			rest := slices.Delete(copyTiles(all), i, i+1)
			want, taken := slowTiled(rest, count)
			wantTiled(t, "all but one", rest, count, want, taken)
			if tile.Level > 0 && (want != root || taken < 1) {
				t.Error(n, "lower tiles do not stand for", tile, taken)
			}
		}
	}
	wantTiled(t, "no tiles", nil, 1, 0, -1)
	wantTiled(t, "no tiles", []impl.TileOf{}, 200, 0, -1)
	wantTiled(t, "tiles without Hashes", make([]impl.TileOf, 9), 1, 0, -1)
	wantTiled(t, "one more is asked for", tilesOf(logRow(200), 0, 1, 2, 3)[:50], 201, 0, -1)
	wantTiled(t, "one more than there is", tilesOf(logRow(7), 0, 1), 8, 0, -1)
}

func TestTwoTilesWithTheSamePart(t *testing.T) {
	row := []uint64{1, 2, 3, 4, 5}
	tiles := []impl.TileOf{{Hashes: row[:4]}, {Index: 1, Hashes: row[4:]}}
	root := slowRoot(row)
	twin := impl.TileOf{Hashes: []uint64{1, 9, 3, 4}}
	bent := slowRoot([]uint64{1, 9, 3, 4, 5})
	wantTiled(t, "the first counts", append(copyTiles(tiles), twin), 5, root, 5)
	wantTiled(t, "the first counts, and is the other", append([]impl.TileOf{twin}, tiles...), 5, bent, 5)
	short := impl.TileOf{Hashes: []uint64{7}}
	wantTiled(t, "a short one first", append([]impl.TileOf{short}, tiles...), 5, slowRoot([]uint64{7, 2, 3, 4, 5}), 5)
	wantTiled(t, "an empty one first", append([]impl.TileOf{{}}, tiles...), 5, root, 5)
	high := impl.TileOf{Level: 1, Hashes: []uint64{77}}
	wantTiled(t, "the higher level counts, though it is last", append(copyTiles(tiles), high), 5, slowPair(77, 5), 2)
	wantTiled(t, "the higher level counts, though it is first", append([]impl.TileOf{high}, tiles...), 5, slowPair(77, 5), 2)
	wantTiled(t, "the first of the higher level", append([]impl.TileOf{{Level: 1, Hashes: []uint64{78}}}, append(copyTiles(tiles), high)...), 5, slowPair(78, 5), 2)
	wantTiled(t, "a part that is the whole row", []impl.TileOf{{Level: 1, Hashes: []uint64{77}}}, 4, 77, 1)
	wantTiled(t, "a part of 16 that is the whole row", []impl.TileOf{{Level: 2, Hashes: []uint64{77}}}, 16, 77, 1)
	wantTiled(t, "a part of 64 that is the whole row", []impl.TileOf{{Level: 3, Hashes: []uint64{77}}}, 64, 77, 1)
	wantTiled(t, "two parts of 64", []impl.TileOf{{Level: 3, Hashes: []uint64{77, 78}}}, 128, slowPair(77, 78), 2)
	wantTiled(t, "a part of 16 that is not whole", []impl.TileOf{{Level: 2, Hashes: []uint64{77}}}, 15, 0, -1)
	wantTiled(t, "more Hashes than are needed", []impl.TileOf{{Hashes: []uint64{1, 2, 3, 4}}}, 3, slowRoot(row[:3]), 3)
	wantTiled(t, "a row of 0", []impl.TileOf{{Hashes: []uint64{0}}}, 1, 0, 1)
}

func TestTilesThatAreNone(t *testing.T) {
	row := []uint64{1, 2, 3, 4, 5}
	root := slowRoot(row)
	tiles := []impl.TileOf{{Hashes: row[:4]}, {Index: 1, Hashes: row[4:]}}
	wrong := []uint64{91, 92, 93, 94}
	for _, far := range append(farNumbers(), 4, 31, 32, 33, 63, 64, 65, 128) {
		with := append([]impl.TileOf{{Level: far, Hashes: wrong}, {Level: far, Index: far, Hashes: wrong}}, tiles...)
		wantTiled(t, "a Level that is none", with, 5, root, 5)
		wantTiled(t, "such a tile alone", with[:2], 1, 0, -1)
		with = append([]impl.TileOf{{Index: far, Hashes: wrong}, {Level: 1, Index: far, Hashes: wrong}}, tiles...)
		wantTiled(t, "an Index that is none", with, 5, root, 5)
		wantTiled(t, "such a tile alone", with[:2], 1, 0, -1)
		five := append(copyTiles(tiles), impl.TileOf{Level: far, Index: far, Hashes: make([]uint64, 5)})
		wantTiled(t, "5 Hashes in a tile that nobody needs", five, 5, 0, -1)
	}
	for level := range int64(5) {
		five := impl.TileOf{Level: level, Index: 9, Hashes: make([]uint64, 5)}
		wantTiled(t, "5 Hashes, first", append([]impl.TileOf{five}, tiles...), 5, 0, -1)
		wantTiled(t, "5 Hashes, last", append(copyTiles(tiles), five), 5, 0, -1)
		five.Hashes = make([]uint64, 50000)
		wantTiled(t, "many Hashes", append(copyTiles(tiles), five), 5, 0, -1)
	}
	wantTiled(t, "just the Hashes of the row, but 5 in one tile", []impl.TileOf{{Hashes: row}}, 5, 0, -1)
	for _, n := range append(farNumbers(), 0, 201, 256, 400) {
		wantTiled(t, "no length", tilesOf(logRow(200), 0, 1, 2, 3), n, 0, -1)
	}
	many := slices.Repeat([]impl.TileOf{{Level: 9, Hashes: wrong}}, 3000)
	wantTiled(t, "many tiles", append(many, tilesOf(logRow(200), 0, 1, 2, 3)...), 200, slowRoot(logRow(200)), partsOfLevels(200, 64, 16, 4, 1))
}

func TestTiledOfAnyTiles(t *testing.T) {
	r := rand.New(rand.NewSource(154))
	seen := map[bool]int{}
	for range 3000 {
		n := oneOf(r, 1+r.Int63n(30), 1+r.Int63n(200))
		row := logRow(200)[:min(200, n+r.Int63n(10))]
		var tiles []impl.TileOf
		for _, tile := range tilesOf(row, 0, 1, 2, 3) {
			if tile.Level > 0 && r.Intn(2) == 0 || r.Intn(30) == 0 {
				continue
			}
			tile.Hashes = tile.Hashes[:len(tile.Hashes)-r.Intn(20)/19]
			tiles = append(tiles, tile)
		}
		for range r.Intn(4) {
			tiles = append(tiles, impl.TileOf{Level: r.Int63n(6) - 1, Index: r.Int63n(52) - 1, Hashes: anyRow(r, 4)})
		}
		r.Shuffle(len(tiles), func(i int, j int) { tiles[i], tiles[j] = tiles[j], tiles[i] })
		root, taken := slowTiled(tiles, n)
		wantTiled(t, "any tiles", tiles, n, root, taken)
		seen[taken >= 0]++
	}
	if seen[true] < 500 || seen[false] < 500 {
		t.Error("too few of some", seen)
	}
}
