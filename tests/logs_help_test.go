package tests

import (
	"math/bits"
	"math/rand"
	"slices"

	"loop.example/g00041/impl"
)

func slowPair(a uint64, b uint64) uint64 { return wordHash("pair", a, b) }

// slowPart is the greatest power of two below n, looked for from above.
func slowPart(n int) int {
	for k := n - 1; ; k-- {
		if bits.OnesCount(uint(k)) == 1 {
			return k
		}
	}
}

func slowRoot(row []uint64) uint64 {
	if len(row) == 0 {
		return 0
	}
	if len(row) == 1 {
		return row[0]
	}
	k := slowPart(len(row))
	return slowPair(slowRoot(row[:k]), slowRoot(row[k:]))
}

// slowInclude tells a proof from the highest digest down, and turns it over at last.
func slowInclude(row []uint64, i int) []uint64 {
	var out []uint64
	for len(row) > 1 {
		k := slowPart(len(row))
		if i < k {
			out, row = append(out, slowRoot(row[k:])), row[:k]
		} else {
			out, row, i = append(out, slowRoot(row[:k])), row[k:], i-k
		}
	}
	slices.Reverse(out)
	return out
}

// slowExtend does so with E.
func slowExtend(row []uint64, m int) []uint64 {
	var out []uint64
	flag := true
	for m < len(row) {
		k := slowPart(len(row))
		if m <= k {
			out, row = append(out, slowRoot(row[k:])), row[:k]
		} else {
			out, row, m, flag = append(out, slowRoot(row[:k])), row[k:], m-k, false
		}
	}
	if !flag {
		out = append(out, slowRoot(row))
	}
	slices.Reverse(out)
	return out
}

// climb goes up from a position: in a row whose last position is last, beside whom does it stand next?
type climb struct{ at, last int64 }

func (c *climb) up() { c.at, c.last = c.at/2, c.last/2 }

// isRight tells whether the next digest of a proof stands to the left of what there is; where nobody stands to the
// right of the last one, it goes up until somebody stands to its left.
func (c *climb) isRight() bool {
	if c.at%2 == 0 && c.at != c.last {
		return false
	}
	for c.at%2 == 0 && c.at > 0 {
		c.up()
	}
	return true
}

// slowCheckInclude climbs by positions, and parts nothing.
func slowCheckInclude(root uint64, n int64, i int64, x uint64, proof []uint64) bool {
	if !within(n, 1, 200) || !within(i, 0, n-1) {
		return false
	}
	c := climb{i, n - 1}
	for _, beside := range proof {
		if c.last == 0 {
			return false
		}
		if c.isRight() {
			x = slowPair(beside, x)
		} else {
			x = slowPair(x, beside)
		}
		c.up()
	}
	return c.last == 0 && x == root
}

// slowCheckExtend climbs from the last of the beginning, up to the highest part that ends with it.
func slowCheckExtend(old uint64, m int64, root uint64, n int64, proof []uint64) bool {
	if !within(n, 1, 200) || !within(m, 1, n) {
		return false
	}
	if m == n {
		return old == root && len(proof) == 0
	}
	if bits.OnesCount64(uint64(m)) == 1 {
		proof = append([]uint64{old}, proof...)
	}
	if len(proof) == 0 {
		return false
	}
	c := climb{m - 1, n - 1}
	for c.at%2 == 1 {
		c.up()
	}
	first, all := proof[0], proof[0]
	for _, beside := range proof[1:] {
		if c.last == 0 {
			return false
		}
		if c.isRight() {
			first, all = slowPair(beside, first), slowPair(beside, all)
		} else {
			all = slowPair(all, beside)
		}
		c.up()
	}
	return c.last == 0 && first == old && all == root
}

// logRow is a row of so many entries, the same each time, so that a shorter one is a beginning of a longer one.
func logRow(count int) []uint64 {
	var out []uint64
	for i := range int64(count) {
		out = append(out, impl.EntryHash(impl.PutNum(i)))
	}
	return out
}

// bentRow is logRow with another digest at one position.
func bentRow(count int, at int) []uint64 {
	out := logRow(count)
	out[at] ^= 1
	return out
}

// rowLengths are all short ones, and those about the powers of two and the limit.
func rowLengths() []int {
	var out []int
	for n := 1; n <= 35; n++ {
		out = append(out, n)
	}
	return append(out, 48, 63, 64, 65, 66, 96, 100, 127, 128, 129, 130, 160, 191, 192, 193, 199, 200)
}

// farNumbers are numbers that are no position, length, time or level of anything.
func farNumbers() []int64 {
	return []int64{-1 << 63, -1<<63 + 1, -1 << 32, -201, -2, -1, 1 << 31, 1 << 32, 1 << 60, 1 << 61, 1 << 62, 1<<63 - 2, 1<<63 - 1}
}

func anyRow(r *rand.Rand, most int) []uint64 {
	var out []uint64
	for range r.Intn(most + 1) {
		out = append(out, oneOf(r, r.Uint64(), r.Uint64(), r.Uint64()%3))
	}
	return out
}

// slowTilePart is the part that a tile's Hash tells: where it begins and how long it is. False when there is no such part.
func slowTilePart(t impl.TileOf, j int) (int64, int64, bool) {
	if !within(t.Level, 0, 3) || !within(t.Index, 0, 200) {
		return 0, 0, false
	}
	size := []int64{1, 4, 16, 64}[t.Level]
	return (4*t.Index + int64(j)) * size, size, true
}

// slowTiled goes through all Hashes of all tiles for each part.
func slowTiled(tiles []impl.TileOf, n int64) (uint64, int64) {
	if !within(n, 1, 200) {
		return 0, -1
	}
	for _, t := range tiles {
		if len(t.Hashes) > 4 {
			return 0, -1
		}
	}
	taken := int64(0)
	var part func(from int64, n int64) (uint64, bool)
	part = func(from int64, n int64) (uint64, bool) {
		for _, t := range tiles {
			for j, hash := range t.Hashes {
				if at, size, ok := slowTilePart(t, j); ok && at == from && size == n {
					taken++
					return hash, true
				}
			}
		}
		if n == 1 {
			return 0, false
		}
		k := int64(slowPart(int(n)))
		first, firstOk := part(from, k)
		second, secondOk := part(from+k, n-k)
		return slowPair(first, second), firstOk && secondOk
	}
	root, ok := part(0, n)
	if !ok {
		return 0, -1
	}
	return root, taken
}

// tilesOf are all tiles of a row on these levels, made by the document's words.
func tilesOf(row []uint64, levels ...int64) []impl.TileOf {
	var out []impl.TileOf
	for _, level := range levels {
		for index := range int64(201) {
			if hashes := slowTile(row, level, index); len(hashes) > 0 {
				out = append(out, impl.TileOf{Level: level, Index: index, Hashes: hashes})
			}
		}
	}
	return out
}

func slowTile(row []uint64, level int64, index int64) []uint64 {
	if len(row) > 200 || !within(level, 0, 3) || !within(index, 0, 200) {
		return nil
	}
	var out []uint64
	for j := range 4 {
		if from, size, _ := slowTilePart(impl.TileOf{Level: level, Index: index}, j); from+size <= int64(len(row)) {
			out = append(out, slowRoot(row[from:from+size]))
		}
	}
	return out
}

func copyTiles(tiles []impl.TileOf) []impl.TileOf {
	var out []impl.TileOf
	for _, t := range tiles {
		t.Hashes = slices.Clone(t.Hashes)
		out = append(out, t)
	}
	return out
}
