package tests

import (
	"bytes"
	"math/rand"
	"slices"

	"loop.example/g00041/impl"
)

// sameItem holds two items against each other; an empty list and nil are the same.
func sameItem(a impl.Item, b impl.Item) bool {
	if a.Class != b.Class || a.Tag != b.Tag || a.Cons != b.Cons || !bytes.Equal(a.Body, b.Body) || len(a.Kids) != len(b.Kids) {
		return false
	}
	for i := range a.Kids {
		if !sameItem(a.Kids[i], b.Kids[i]) {
			return false
		}
	}
	return true
}

func noItem(x impl.Item) bool { return sameItem(x, impl.Item{}) }

func copyItem(x impl.Item) impl.Item {
	x.Body = bytes.Clone(x.Body)
	kids := x.Kids
	x.Kids = nil
	for _, kid := range kids {
		x.Kids = append(x.Kids, copyItem(kid))
	}
	return x
}

// nested has count items within one another: Cons ones, and within them one that is not.
func nested(count int) impl.Item {
	x := impl.Item{Tag: 4}
	for range count - 1 {
		x = impl.Item{Tag: 16, Cons: true, Kids: []impl.Item{x}}
	}
	return x
}

func anyTag(r *rand.Rand) int64 {
	edges := []int64{1, 2, 30, 31, 32, 127, 128, 16383, 16384, 2097151, 2097152, impl.MaxTag - 1, impl.MaxTag}
	if r.Intn(2) == 0 {
		return edges[r.Intn(len(edges))]
	}
	return 1 + r.Int63n(40)
}

func anyItem(r *rand.Rand, deep int) impl.Item {
	x := impl.Item{Class: r.Int63n(4), Tag: anyTag(r)}
	if x.Class > 0 && r.Intn(8) == 0 {
		x.Tag = 0
	}
	if deep > 1 && r.Intn(3) > 0 {
		x.Cons = true
		for range r.Intn(4) {
			x.Kids = append(x.Kids, anyItem(r, deep-1))
		}
		return x
	}
	sizes := []int{0, 1, 2, 5, 126, 127, 128, 129, 255, 256, 300}
	x.Body = make([]byte, sizes[r.Intn(len(sizes))])
	r.Read(x.Body)
	return x
}

// laxBytes writes x in one of its lax forms: with groups of 128 ahead, long tags that
// are small, lengths in more bytes than they need, open items.
func laxBytes(r *rand.Rand, x impl.Item) []byte {
	first := byte(64 * x.Class)
	if x.Cons {
		first += 32
	}
	inner := x.Body
	for _, kid := range x.Kids {
		inner = append(inner, laxBytes(r, kid)...)
	}
	out := []byte{first + byte(x.Tag%31)}
	if x.Tag >= 31 || r.Intn(3) == 0 {
		out = []byte{first + 31}
		groups := impl.PutNum(x.Tag)
		for ahead := r.Intn(7 - len(groups)); ahead > 0; ahead-- {
			out = append(out, 128)
		}
		out = append(out, groups...)
	}
	if x.Cons && r.Intn(2) == 0 {
		out = append(append(out, 128), inner...)
		return append(out, 0, 0)
	}
	return append(append(out, laxLength(r, len(inner))...), inner...)
}

func laxLength(r *rand.Rand, n int) []byte {
	if n < 128 && r.Intn(2) == 0 {
		return []byte{byte(n)}
	}
	least := 1
	for n>>(8*least) > 0 {
		least++
	}
	size := least + r.Intn(5-least)
	out := []byte{byte(128 + size)}
	for i := size - 1; i >= 0; i-- {
		out = append(out, byte(n>>(8*i)))
	}
	return out
}

// scrambled is b with a few bytes of it turned, left out or put in.
func scrambled(r *rand.Rand, b []byte) []byte {
	out := bytes.Clone(b)
	for range 1 + r.Intn(3) {
		at := r.Intn(len(out))
		switch r.Intn(4) {
		case 0:
			out[at] = byte(r.Intn(256))
		case 1:
			out = slices.Delete(out, at, at+1)
		case 2:
			out = slices.Insert(out, at, oneOf[byte](r, 0, 1, 2, 4, 48, 49, 128, 255))
		default:
			out[at] = b[r.Intn(len(b))]
		}
	}
	return out
}
