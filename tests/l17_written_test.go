package tests

import (
	"bytes"
	"math/rand"
	"slices"
	"testing"

	"loop.example/g00041/impl"
)

// smallMsg has something in every field, in few bytes.
func smallMsg() impl.Msg {
	return impl.Msg{Content: []byte("abc"), Signers: []impl.Signer{
		{Key: 5, At: 7, Sig: []byte{9}, Over: []impl.Signer{{Key: 1 << 63, At: 128, Sig: []byte{1, 2}}, {Key: 6, At: 0}}},
		{Key: 8, At: 300, Sig: []byte{3}},
	}}
}

// wantRead holds ReadMsg to the document's words, and what it reads to its bytes.
func wantRead(t *testing.T, why string, b []byte) int64 {
	t.Helper()
	got, code := impl.ReadMsg(b)
	want, wantCode := slowReadMsg(b)
	if code != wantCode || !sameMsg(got, want) {
		t.Fatal(why, "got", got, code, "want", want, wantCode, "of", b)
	}
	if code != 0 {
		return code
	}
	again, ok := impl.MsgBytes(got)
	if !ok || !bytes.Equal(again, slowMsg(got)) {
		t.Fatal(why, "is written otherwise", again, ok)
	}
	if back, code := impl.ReadMsg(again); code != 0 || !sameMsg(back, got) {
		t.Fatal(why, "is not read back", back, code)
	}
	return 0
}

func wantNotRead(t *testing.T, why string, want int64, b []byte) {
	t.Helper()
	if got, code := impl.ReadMsg(b); code != want || !noMsg(got) {
		t.Fatal(why, "got", got, code, "want", want, "of", b)
	}
}

// wantSame wants b to be read as m.
func wantSame(t *testing.T, why string, b []byte, m impl.Msg) {
	t.Helper()
	if got, code := impl.ReadMsg(b); code != 0 || !sameMsg(got, m) {
		t.Fatal(why, "got", got, code, "want", m, "of", b)
	}
	wantRead(t, why, b)
}

func TestMessagesAreReadBack(t *testing.T) {
	for _, signers := range [][]impl.Signer{nil, plainMsg().Signers, plainMsg().Signers[1:2], smallMsg().Signers} {
		for _, size := range []int{0, 1, 2, 63, 64, 65, 127, 128, 129, 192, 1000, 3968, 3999, 4000} {
			m := impl.Msg{Content: someText(size), Signers: signers}
			b, ok := impl.MsgBytes(m)
			if !ok || !bytes.Equal(b, slowMsg(m)) {
				t.Fatal(size, "got", b, ok, "want", slowMsg(m))
			}
			if canon, code, _ := impl.Canon(b); code != 0 || !bytes.Equal(canon, b) {
				t.Fatal(size, "is not the strict form", code)
			}
			wantSame(t, "its bytes", b, m)
		}
	}
}

func TestAPlainMessageIsWrittenAsTold(t *testing.T) {
	content := someText(65)
	m := impl.Msg{Content: content, Signers: []impl.Signer{{Key: 258, At: 200, Sig: []byte{7, 8}, Over: []impl.Signer{{Key: 5, At: 1}}}, {Key: 1 << 63}}}
	want := slices.Concat(
		[]byte{106, 129, 133, 49, 69, 4, 64}, content[:64], []byte{4, 1, content[64]},
		[]byte{49, 60},
		[]byte{48, 39, 4, 8, 0, 0, 0, 0, 0, 0, 1, 2, 2, 2, 0, 200, 4, 2, 7, 8},
		[]byte{49, 19, 48, 17, 4, 8, 0, 0, 0, 0, 0, 0, 0, 5, 2, 1, 1, 4, 0, 49, 0},
		[]byte{48, 17, 4, 8, 128, 0, 0, 0, 0, 0, 0, 0, 2, 1, 0, 4, 0, 49, 0},
	)
	if b, ok := impl.MsgBytes(m); !ok || !bytes.Equal(b, want) {
		t.Error("got", b, ok, "want", want)
	}
	wantSame(t, "as told", want, m)
	if b, ok := impl.MsgBytes(impl.Msg{}); !ok || !bytes.Equal(b, []byte{106, 4, 49, 0, 49, 0}) {
		t.Error("nothing", b, ok)
	}
	wantSame(t, "nothing", []byte{106, 4, 49, 0, 49, 0}, impl.Msg{})
}

func TestMessagesAboutTheirLimits(t *testing.T) {
	for _, row := range msgCases() {
		m := changedMsg(plainMsg(), row.change)
		b := slowMsg(m)
		got, ok := impl.MsgBytes(m)
		if want := row.right && len(b) <= 20000; ok != want || want && !bytes.Equal(got, b) || !want && len(got) != 0 {
			t.Error(row.why, "got", got, ok, "want", want)
		}
		if !row.right && len(b) <= 20000 {
			wantNotRead(t, row.why, impl.MgForm, b)
		}
		wantRead(t, row.why, b)
	}
	if b, ok := impl.MsgBytes(ownOver()); ok || len(b) != 0 {
		t.Error("over itself", b, ok)
	}
}

func TestMessagesOfJustMaxBytes(t *testing.T) {
	for _, size := range []int{15000, 19999, 20000, 20001, 20002, 20500} {
		m := sizedMsg(size)
		b := slowMsg(m)
		if len(b) != size || !slowMsgOk(m) {
			t.Fatal("not of the size", size, len(b))
		}
		got, ok := impl.MsgBytes(m)
		if ok != (size <= 20000) || ok && !bytes.Equal(got, b) || !ok && len(got) != 0 {
			t.Error(size, "got", len(got), ok)
		}
		// In one piece it is shorter by 62 heads of two bytes and longer by two bytes of the one that is left.
		whole := slowPieces([][]byte{m.Content}, m.Signers)
		if len(whole) >= size-100 {
			t.Fatal("not shorter", len(whole))
		}
		switch {
		case size <= 20000:
			wantSame(t, "its bytes", b, m)
			wantSame(t, "in one piece", whole, m)
		default:
			wantNotRead(t, "too long", impl.TLong, b)
		}
		if size > 20000 && len(whole) <= 20000 {
			wantNotRead(t, "in one piece, but too long in pieces of 64", impl.MgForm, whole)
		}
	}
	// And the other way: it has bytes, but this form of it has too many.
	m := sizedMsg(20000)
	wantNotRead(t, "in small pieces", impl.TLong, slowPieces(inPieces(m.Content, 63), m.Signers))
}

func TestPiecesOfOtherLengths(t *testing.T) {
	content := someText(130)
	signers := smallMsg().Signers
	for size := 1; size <= 131; size++ {
		wantSame(t, "like pieces", slowPieces(inPieces(content, size), signers), impl.Msg{Content: content, Signers: signers})
	}
	empty := []byte{}
	rows := [][][]byte{{empty}, {empty, empty}, {empty, content}, {content, empty}, {content[:1], empty, content[1:]}, {empty, content[:64], empty, empty, content[64:], empty}}
	for _, pieces := range rows {
		wantSame(t, "pieces of none", slowPieces(pieces, signers), impl.Msg{Content: bytes.Join(pieces, nil), Signers: signers})
	}
	wantSame(t, "many pieces of none", slowPieces(make([][]byte, 5000), signers), impl.Msg{Signers: signers})
	for _, size := range []int{3999, 4000} {
		wantSame(t, "one long piece", slowPieces([][]byte{someText(size)}, signers), impl.Msg{Content: someText(size), Signers: signers})
	}
	wantNotRead(t, "one piece that is too long", impl.MgForm, slowPieces([][]byte{someText(4001)}, signers))
	wantNotRead(t, "pieces that are too long together", impl.MgForm, slowPieces([][]byte{someText(2000), someText(2001)}, signers))
	wantNotRead(t, "a much longer piece", impl.MgForm, slowPieces([][]byte{make([]byte, 19000)}, signers))
}

func TestMessagesInLaxForms(t *testing.T) {
	r := rand.New(rand.NewSource(173))
	for _, m := range []impl.Msg{plainMsg(), smallMsg(), {}, {Content: someText(300)}, {Signers: plainMsg().Signers}} {
		want, _ := impl.MsgCheck(m, plainKeys(), 130)
		for range 150 {
			b := laxBytes(r, laxMsg(r, m))
			wantSame(t, "a lax form", b, m)
			got, _ := impl.ReadMsg(b)
			if codes, ok := impl.MsgCheck(got, plainKeys(), 130); !ok || !slices.Equal(codes, want) {
				t.Fatal("its signatures are", codes, ok, "want", want)
			}
		}
	}
	for range 60 {
		m := anySigned(r)
		wantSame(t, "any message in a lax form", laxBytes(r, laxMsg(r, m)), m)
	}
	open := []byte{106, 128, 49, 128, 4, 129, 1, 'a', 4, 0, 36, 0, 0, 0, 49, 0, 0, 0}
	wantNotRead(t, "a piece that has Kids", impl.MgForm, open)
	open[10] = 4
	wantSame(t, "open", open, impl.Msg{Content: []byte("a")})
}

func TestNumbersOfAMessageInMoreBytes(t *testing.T) {
	with := func(at []byte, deep bool) []byte {
		plain := slowSigner(impl.Signer{Key: 5})
		x, _, _ := impl.ReadItem(plain, false)
		x.Kids[1].Body = at
		signer, _ := impl.ItemBytes(x)
		if deep {
			signer = slowStruct(slowText(string(eight(7))), slowNumber(3), slowText(""), around(49, signer))
		}
		return around(106, around(49), around(49, signer))
	}
	for _, deep := range []bool{false, true} {
		for _, at := range []int64{0, 1, 127, 128, 255, 256, 1 << 31, impl.MaxTime} {
			whole := eight(uint64(at))
			for size := 1; size <= 8; size++ {
				if at >= 1<<(8*size-1) {
					continue
				}
				m := impl.Msg{Signers: []impl.Signer{{Key: 5, At: at}}}
				if deep {
					m = impl.Msg{Signers: []impl.Signer{{Key: 7, At: 3, Over: m.Signers}}}
				}
				wantSame(t, "a number", with(whole[8-size:], deep), m)
			}
			wantNotRead(t, "nine bytes", impl.MgForm, with(append([]byte{0}, whole...), deep))
			wantNotRead(t, "many bytes", impl.MgForm, with(append(make([]byte, 500), whole...), deep))
		}
		for _, at := range [][]byte{nil, {128}, {255}, {255, 255}, {255, 0}, {128, 0, 0, 0, 0, 0, 0, 0}, eight(impl.MaxTime + 1), eight(1<<63 - 1), eight(1 << 63), eight(1<<64 - 1), append([]byte{255}, eight(7)...)} {
			wantNotRead(t, "no time", impl.MgForm, with(at, deep))
		}
	}
}

func TestKeysOfAMessageHaveEightBytes(t *testing.T) {
	for size := range 20 {
		key := bytes.Repeat([]byte{1}, size)
		signer := slowStruct(around(4, key), slowNumber(3), slowText("s"), around(49))
		b := around(106, around(49), around(49, signer))
		deep := around(106, around(49), around(49, slowStruct(slowText(string(eight(7))), slowNumber(3), slowText(""), around(49, signer))))
		if size == 8 {
			wantSame(t, "eight bytes", b, impl.Msg{Signers: []impl.Signer{{Key: 0x0101010101010101, At: 3, Sig: []byte("s")}}})
			wantRead(t, "eight bytes over it", deep)
			continue
		}
		wantNotRead(t, "a Key of another size", impl.MgForm, b)
		wantNotRead(t, "a Key of another size over it", impl.MgForm, deep)
	}
}

// formsOf are the bytes of a message, strict ones and lax ones.
func formsOf(r *rand.Rand, m impl.Msg) [][]byte {
	return [][]byte{slowMsg(m), laxBytes(r, laxMsg(r, m)), laxBytes(r, laxMsg(r, m))}
}

func TestBytesOfAMessageCutAndLengthened(t *testing.T) {
	r := rand.New(rand.NewSource(174))
	for _, m := range []impl.Msg{smallMsg(), plainMsg()} {
		for _, b := range formsOf(r, m) {
			for cut := range b {
				wantNotRead(t, "cut", impl.TShort, b[:cut])
			}
			for more := range 256 {
				wantNotRead(t, "one byte more", impl.TTrail, append(bytes.Clone(b), byte(more)))
			}
			wantNotRead(t, "twice", impl.TTrail, append(bytes.Clone(b), b...))
			wantNotRead(t, "as long as may be", impl.TTrail, append(bytes.Clone(b), make([]byte, impl.MaxBytes-len(b))...))
			wantNotRead(t, "longer", impl.TLong, append(bytes.Clone(b), make([]byte, impl.MaxBytes+1-len(b))...))
		}
	}
	wantNotRead(t, "no bytes", impl.TShort, nil)
}

func TestEveryByteOfAMessageTurned(t *testing.T) {
	r := rand.New(rand.NewSource(175))
	few := []byte{1, 2, 3, 4, 8, 16, 32, 33, 64, 128, 129, 255}
	seen := map[int64]int{}
	for _, m := range []impl.Msg{smallMsg(), plainMsg()} {
		for _, b := range formsOf(r, m) {
			for i := range b {
				for by := 1; by < 256; by++ {
					if len(b) > 150 && !slices.Contains(few, byte(by)) {
						continue
					}
					other := bytes.Clone(b)
					other[i] ^= byte(by)
					seen[wantRead(t, "turned", other)]++
				}
			}
		}
	}
	for _, code := range []int64{0, impl.TShort, impl.TTag, impl.TLen, impl.TTrail, impl.MgForm} {
		if seen[code] < 10 {
			t.Error("too few of", code, seen)
		}
	}
}

func TestAnyBytesAroundAMessage(t *testing.T) {
	r := rand.New(rand.NewSource(176))
	for range 4000 {
		wantRead(t, "any bytes", scrambled(r, oneOf(r, formsOf(r, smallMsg())...)))
	}
}

func TestItemsThatAreNoMessage(t *testing.T) {
	for _, m := range []impl.Msg{smallMsg(), plainMsg()} {
		x, _, _ := impl.ReadItem(slowMsg(m), false)
		for place, y := range itemsOf(&x) {
			refuse := func(why string, change func(y *impl.Item)) {
				wantNotRead(t, why, impl.MgForm, bent(x, place, change))
			}
			for class := range int64(4) {
				if class != y.Class {
					refuse("another Class", func(y *impl.Item) { y.Class = class })
				}
			}
			for _, tag := range []int64{1, 2, 3, 4, 5, 8, 9, 10, 11, 12, 16, 17, 18, 30, 31, 1000, impl.MaxTag} {
				if tag != y.Tag {
					refuse("another Tag", func(y *impl.Item) { y.Tag = tag })
				}
			}
			refuse("Cons or not", func(y *impl.Item) { y.Cons, y.Body, y.Kids = !y.Cons, nil, nil })
			for _, tag := range []int64{4, 16, 17} {
				refuse("around it", func(y *impl.Item) { *y = impl.Item{Tag: tag, Cons: true, Kids: []impl.Item{copyItem(*y)}} })
			}
		}
	}
}

func TestFieldsOfAMessageLeftOutOrDoubled(t *testing.T) {
	for _, m := range []impl.Msg{smallMsg(), plainMsg()} {
		x, _, _ := impl.ReadItem(slowMsg(m), false)
		for place, y := range itemsOf(&x) {
			if !y.Cons {
				continue
			}
			extra := []impl.Item{{Tag: 4}, {Tag: 17, Cons: true}, {Tag: 2, Body: []byte{1}}, {Tag: 16, Cons: true}, copyItem(x.Kids[0]), copyItem(x.Kids[1].Kids[0])}
			var changes []func(z *impl.Item)
			for k := range len(y.Kids) + 1 {
				for _, more := range extra {
					changes = append(changes, func(z *impl.Item) { z.Kids = slices.Insert(z.Kids, k, copyItem(more)) })
				}
				changes = append(changes, func(z *impl.Item) { z.Kids = append(z.Kids[:k:k], z.Kids[min(k+1, len(z.Kids)):]...) })
				changes = append(changes, func(z *impl.Item) { z.Kids = append(z.Kids, copyItem(z.Kids[min(k, len(z.Kids)-1)])) })
				if k > 0 && k < len(y.Kids) {
					changes = append(changes, func(z *impl.Item) { z.Kids[k-1], z.Kids[k] = z.Kids[k], z.Kids[k-1] })
				}
			}
			for i, change := range changes {
				if len(y.Kids) == 0 && i >= len(extra) {
					continue
				}
				b := bent(x, place, change)
				code := wantRead(t, "changed", b)
				if y.Tag != 17 && code != impl.MgForm && !bytes.Equal(b, slowMsg(m)) {
					t.Fatal("place", place, "change", i, "is read as a message", b)
				}
			}
		}
	}
}

func TestOverOfOver(t *testing.T) {
	var signers []impl.Signer
	for levels := 1; levels <= 7; levels++ {
		signers = []impl.Signer{{Key: uint64(levels), At: 1, Sig: []byte{5}, Over: signers}}
		m := impl.Msg{Signers: signers}
		b, ok := impl.MsgBytes(m)
		if levels <= 2 {
			if !ok || !bytes.Equal(b, slowMsg(m)) {
				t.Error(levels, b, ok)
			}
			wantSame(t, "Over", slowMsg(m), m)
			continue
		}
		if ok || len(b) != 0 {
			t.Error(levels, b, ok)
		}
		// The sixth level of Signers is the first that no item is deep enough for.
		want := int64(impl.MgForm)
		if levels > 5 {
			want = impl.TDeep
		}
		wantNotRead(t, "Over of Over", want, slowMsg(m))
	}
}
