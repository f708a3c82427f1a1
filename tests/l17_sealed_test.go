package tests

import (
	"bytes"
	"math"
	"math/rand"
	"slices"
	"strings"
	"testing"

	"loop.example/g00041/impl"
)

// openers are so many who may open, of the secrets 1001, 1002 ..
func openers(count int) []impl.Pub {
	var out []impl.Pub
	for i := range count {
		out = append(out, pubNo(i+1))
	}
	return out
}

func secretOf(i int) int64 { return int64(secretNo(i + 1).X) }

func wantSealed(t *testing.T, why string, content []byte, to []impl.Pub, eph int64) impl.Envelope {
	t.Helper()
	got, ok := impl.SealMsg(content, to, eph)
	if want := slowSeal(content, to, eph); !ok || !sameEnvelope(got, want) {
		t.Fatal(why, len(content), len(to), eph, "got", got, ok, "want", want)
	}
	return got
}

func wantNotSealed(t *testing.T, why string, content []byte, to []impl.Pub, eph int64) {
	t.Helper()
	if got, ok := impl.SealMsg(content, to, eph); ok || !sameEnvelope(got, impl.Envelope{}) {
		t.Error(why, len(content), to, eph, "got", got, ok)
	}
}

func wantOpened(t *testing.T, why string, e impl.Envelope, x int64, want []byte) {
	t.Helper()
	if got, code := impl.OpenMsg(e, x); code != 0 || !bytes.Equal(got, want) {
		t.Fatal(why, x, "got", got, code, "want", want)
	}
}

func wantShut(t *testing.T, why string, want int64, e impl.Envelope, x int64) {
	t.Helper()
	if got, code := impl.OpenMsg(e, x); code != want || len(got) != 0 {
		t.Fatal(why, x, "got", got, code, "want", want)
	}
}

func TestWhatIsSealedIsOpenedByJustThoseForWhomItIs(t *testing.T) {
	for _, size := range []int{0, 1, 7, 8, 9, 15, 16, 17, 64, 1000, 3999, 4000} {
		content := someText(size)
		for _, count := range []int{1, 2, 3, 20} {
			e := wantSealed(t, "sealed", content, openers(count), 77)
			for i := range 25 {
				if i < count {
					wantOpened(t, "for whom it is", e, secretOf(i), content)
				} else {
					wantShut(t, "for whom it is not", impl.EnKey, e, secretOf(i))
				}
			}
		}
	}
}

func TestSecretsOfAnEnvelope(t *testing.T) {
	for _, eph := range []int64{1, 2, 77, impl.Q / 2, impl.Q - 2, impl.Q - 1} {
		for _, x := range []int64{1, 2, 5, impl.Q - 2, impl.Q - 1, eph} {
			to := []impl.Pub{pubNo(1), {Scheme: impl.ScGroup, Y: uint64(impl.KeyOf(x))}}
			e := wantSealed(t, "any secret", []byte("content"), to, eph)
			wantOpened(t, "any secret", e, x, []byte("content"))
		}
	}
	for _, eph := range append(farNumbers(), 0, impl.Q, impl.Q+1, impl.P) {
		wantNotSealed(t, "eph is no secret", []byte("content"), openers(2), eph)
	}
	e := wantSealed(t, "two", []byte("content"), openers(2), 77)
	for _, x := range append(farNumbers(), 0, impl.Q, impl.Q+1, impl.P, secretOf(0)+impl.Q, secretOf(0)-impl.Q) {
		wantShut(t, "x is no secret", impl.EnKey, e, x)
	}
	// KeyOf answers 0 of what is no secret: a Wrap for that as a key is for nobody.
	for _, wrap := range []impl.Wrap{{Key: impl.KeyId(impl.Pub{Scheme: impl.ScGroup})}, {Key: impl.KeyId(impl.Pub{Scheme: impl.ScGroup, Y: 1})}} {
		nobody := changedEnvelope(e, func(e *impl.Envelope) { e.Wraps = []impl.Wrap{wrap} })
		for _, x := range append(farNumbers(), 0, impl.Q) {
			wantShut(t, "for nobody", impl.EnKey, nobody, x)
		}
	}
}

func TestForWhomAnEnvelopeMayBe(t *testing.T) {
	content := []byte("content")
	wantNotSealed(t, "nobody", content, nil, 77)
	wantNotSealed(t, "21", content, openers(21), 77)
	wantNotSealed(t, "many", content, slices.Repeat(openers(2), 5000), 77)
	wantNotSealed(t, "one twice, 21 in all", content, slices.Repeat(openers(1), 21), 77)
	wantNotSealed(t, "too long", someText(4001), openers(1), 77)
	wantNotSealed(t, "much too long", make([]byte, 50000), openers(1), 77)
	tree := pubOfSecret(treeNo(3))
	wrong := []impl.Pub{{}, tree, {Scheme: impl.ScTree, Y: pubNo(1).Y}, {Scheme: 3, Y: pubNo(1).Y}, {Y: pubNo(1).Y}, {Scheme: -1, Y: pubNo(1).Y}, {Scheme: impl.ScGroup}, {Scheme: impl.ScGroup, Y: 1}, {Scheme: impl.ScGroup, Y: impl.P - 1}, {Scheme: impl.ScGroup, Y: impl.P}, {Scheme: impl.ScGroup, Y: impl.P + 4}, {Scheme: impl.ScGroup, Y: 1<<63 + 4}, {Scheme: impl.ScGroup, Y: math.MaxUint64}, {Scheme: impl.ScGroup, Y: pubNo(1).Y, Height: 1}, {Scheme: impl.ScGroup, Y: pubNo(1).Y, Height: -1}}
	for _, p := range wrong {
		wantNotSealed(t, "one that is none", content, []impl.Pub{p}, 77)
		wantNotSealed(t, "one that is none behind others", content, append(openers(3), p), 77)
		wantNotSealed(t, "one that is none ahead of others", content, append([]impl.Pub{p}, openers(19)...), 77)
	}
	twice := wantSealed(t, "one twice", content, []impl.Pub{pubNo(1), pubNo(2), pubNo(1)}, 77)
	if len(twice.Wraps) != 3 || twice.Wraps[0] != twice.Wraps[2] {
		t.Error("one twice", twice)
	}
	wantOpened(t, "one twice", twice, secretOf(0), content)
	wantOpened(t, "beside one twice", twice, secretOf(1), content)
}

func TestAPlainEnvelopeIsSealedAsTold(t *testing.T) {
	to := []impl.Pub{pubOfSecret(impl.Secret{Scheme: impl.ScGroup, X: 101}), pubOfSecret(impl.Secret{Scheme: impl.ScGroup, X: 102})}
	want := impl.Envelope{
		Eph: 315842700, Wraps: []impl.Wrap{{Key: 4991269664715585943, Value: 8603011591705908203}, {Key: 3842475799690779081, Value: 11220819769155541264}},
		Body: []byte{253, 16, 95, 125, 148, 26, 133, 25, 112, 76, 218, 73, 97, 67, 134, 112, 148, 0, 136}, Tag: 1701106080570205707,
	}
	if got, ok := impl.SealMsg([]byte("for two and no more"), to, 77); !ok || !sameEnvelope(got, want) {
		t.Error("got", got, ok, "want", want)
	}
	wantOpened(t, "as told", want, 101, []byte("for two and no more"))
	wantOpened(t, "as told", want, 102, []byte("for two and no more"))
	wantShut(t, "as told", impl.EnKey, want, 103)
}

func TestTheEphOfAnEnvelope(t *testing.T) {
	e := wantSealed(t, "two", []byte("content"), openers(2), 77)
	with := func(eph int64) impl.Envelope { return changedEnvelope(e, func(e *impl.Envelope) { e.Eph = eph }) }
	for _, eph := range append(farNumbers(), 0, 1, impl.P-1, impl.P, impl.P+1, impl.P+e.Eph, e.Eph-impl.P) {
		wantShut(t, "no member", impl.EnKey, with(eph), secretOf(0))
	}
	members, others := 0, 0
	for eph := int64(2); eph < 200; eph++ {
		if bigPow(eph, impl.Q, impl.P) == 1 {
			members++
			wantShut(t, "another member", impl.EnTag, with(eph), secretOf(0))
		} else {
			others++
			wantShut(t, "no member", impl.EnKey, with(eph), secretOf(0))
		}
	}
	if members < 50 || others < 50 {
		t.Error("too few", members, others)
	}
	wantShut(t, "another eph", impl.EnTag, with(impl.KeyOf(78)), secretOf(1))
	// With G itself for Eph, what is shared with a reader is the reader's own key.
	wantOpened(t, "eph 1", wantSealed(t, "eph 1", []byte("content"), openers(2), 1), secretOf(1), []byte("content"))
}

func TestEnvelopesOfWhichABitIsTurned(t *testing.T) {
	for _, size := range []int{0, 1, 8, 9, 30} {
		content := someText(size)
		e := wantSealed(t, "two", content, openers(2), 77)
		for bit := range 64 {
			first := changedEnvelope(e, func(e *impl.Envelope) { e.Wraps[0].Value ^= 1 << bit })
			wantShut(t, "the first Value", impl.EnTag, first, secretOf(0))
			wantOpened(t, "the first Value, for the second", first, secretOf(1), content)
			named := changedEnvelope(e, func(e *impl.Envelope) { e.Wraps[0].Key ^= 1 << bit })
			wantShut(t, "the first Key", impl.EnKey, named, secretOf(0))
			wantOpened(t, "the first Key, for the second", named, secretOf(1), content)
			tagged := changedEnvelope(e, func(e *impl.Envelope) { e.Tag ^= 1 << bit })
			wantShut(t, "the Tag", impl.EnTag, tagged, secretOf(0))
			wantShut(t, "the Tag", impl.EnTag, tagged, secretOf(1))
			wantShut(t, "the Tag, for another", impl.EnKey, tagged, secretOf(2))
		}
		for at := range e.Body {
			for by := 1; by < 256; by++ {
				turned := changedEnvelope(e, func(e *impl.Envelope) { e.Body[at] ^= byte(by) })
				wantShut(t, "the Body", impl.EnTag, turned, secretOf(0))
				wantShut(t, "the Body", impl.EnTag, turned, secretOf(1))
			}
			wantShut(t, "the Body is cut", impl.EnTag, changedEnvelope(e, func(e *impl.Envelope) { e.Body = e.Body[:at] }), secretOf(0))
		}
		wantShut(t, "the Body is longer", impl.EnTag, changedEnvelope(e, func(e *impl.Envelope) { e.Body = append(e.Body, 0) }), secretOf(0))
	}
	long := wantSealed(t, "as long as may be", someText(4000), openers(1), 9)
	for at := range long.Body {
		turned := changedEnvelope(long, func(e *impl.Envelope) { e.Body[at] ^= byte(1 << (at % 8)) })
		wantShut(t, "a long Body", impl.EnTag, turned, secretOf(0))
	}
}

func TestTheWrapsOfAnEnvelope(t *testing.T) {
	content := []byte("content")
	e := wantSealed(t, "two", content, openers(2), 77)
	with := func(wraps ...impl.Wrap) impl.Envelope {
		return changedEnvelope(e, func(e *impl.Envelope) { e.Wraps = wraps })
	}
	good, other := e.Wraps[0], e.Wraps[1]
	bad := impl.Wrap{Key: good.Key, Value: good.Value ^ 1}
	wantShut(t, "no Wraps", impl.EnKey, with(), secretOf(0))
	wantShut(t, "another's Wrap", impl.EnKey, with(other), secretOf(0))
	wantOpened(t, "in another order", with(other, good), secretOf(0), content)
	wantShut(t, "a bad one with the same Key ahead", impl.EnTag, with(bad, good), secretOf(0))
	wantShut(t, "a bad one with the same Key ahead, and others", impl.EnTag, with(other, bad, other, good), secretOf(0))
	wantOpened(t, "a bad one with the same Key behind", with(good, bad), secretOf(0), content)
	wantOpened(t, "a bad one, for another", with(bad, bad, other), secretOf(1), content)
	wantShut(t, "another's Value", impl.EnTag, with(impl.Wrap{Key: good.Key, Value: other.Value}), secretOf(0))
	wantShut(t, "nothing", impl.EnKey, impl.Envelope{}, secretOf(0))
	wantShut(t, "nothing but a Wrap", impl.EnKey, impl.Envelope{Wraps: e.Wraps}, secretOf(0))
	many := with(append(slices.Repeat([]impl.Wrap{other, {}}, 3000), good)...)
	wantOpened(t, "behind many", many, secretOf(0), content)
}

func TestBodiesThatAreTooLong(t *testing.T) {
	for _, size := range []int{4000, 4001, 4008, 30000} {
		e := slowSeal(someText(size), openers(1), 77)
		if size == 4000 {
			wantOpened(t, "as long as may be", e, secretOf(0), someText(size))
		} else {
			wantShut(t, "too long", impl.EnTag, e, secretOf(0))
			wantShut(t, "too long, for another", impl.EnKey, e, secretOf(1))
		}
	}
}

// Another eph or another content gives another key of the content.
func TestEnvelopesAreUnlike(t *testing.T) {
	content := someText(40)
	seen := map[uint64]string{}
	for eph := range int64(50) {
		e := wantSealed(t, "any eph", content, openers(1), eph+1)
		seen[e.Tag] = string(e.Body)
	}
	for at := range content {
		other := bytes.Clone(content)
		other[at] ^= 1
		e := wantSealed(t, "any content", other, openers(1), 1)
		seen[e.Tag] = string(e.Body)
	}
	bodies := map[string]int{}
	for _, body := range seen {
		bodies[body]++
	}
	if len(seen) != 90 || len(bodies) != 90 {
		t.Error("alike", len(seen), len(bodies))
	}
}

func TestAnyEnvelope(t *testing.T) {
	r := rand.New(rand.NewSource(177))
	for range 400 {
		var to []impl.Pub
		var secrets []int64
		for range 1 + r.Intn(20) {
			x := anySecret(r)
			to, secrets = append(to, impl.Pub{Scheme: impl.ScGroup, Y: uint64(impl.KeyOf(x))}), append(secrets, x)
		}
		content := someBytes(r, 100)
		e := wantSealed(t, "any", content, to, anySecret(r))
		for _, x := range secrets {
			wantOpened(t, "any", e, x, content)
		}
		wantShut(t, "anybody else", impl.EnKey, e, anySecret(r))
	}
}

func wantLocked(t *testing.T, why string, data []byte, pass string, salt []byte, rounds int64) impl.Store {
	t.Helper()
	got, ok := impl.Lock(data, pass, salt, rounds)
	if want := slowLock(data, pass, salt, rounds); !ok || !sameStore(got, want) {
		t.Fatal(why, "got", got, ok, "want", want)
	}
	if back, code := impl.Unlock(got, pass); code != 0 || !bytes.Equal(back, data) {
		t.Fatal(why, "is not unlocked", back, code)
	}
	return got
}

func wantNotLocked(t *testing.T, why string, data []byte, pass string, salt []byte, rounds int64) {
	t.Helper()
	if got, ok := impl.Lock(data, pass, salt, rounds); ok || !sameStore(got, impl.Store{}) {
		t.Error(why, "got", got, ok)
	}
}

func wantLockedStill(t *testing.T, why string, want int64, s impl.Store, pass string) {
	t.Helper()
	if got, code := impl.Unlock(s, pass); code != want || len(got) != 0 {
		t.Fatal(why, "got", got, code, "want", want)
	}
}

func TestLockAboutItsLimits(t *testing.T) {
	salt := []byte{1, 2}
	for _, size := range []int{0, 1, 7, 8, 9, 3999, 4000} {
		wantLocked(t, "data", someText(size), "word", salt, 3)
	}
	for _, size := range []int{0, 1, 99, 100} {
		wantLocked(t, "pass", []byte("key"), strings.Repeat("p", size), salt, 3)
	}
	for _, size := range []int{0, 1, 15, 16} {
		wantLocked(t, "salt", []byte("key"), "word", someText(size), 3)
	}
	for _, rounds := range []int64{1, 2, 999, 1000} {
		wantLocked(t, "rounds", []byte("key"), "word", salt, rounds)
	}
	wantLocked(t, "nothing", nil, "", nil, 1)
	wantLocked(t, "as much as may be", someText(4000), strings.Repeat("\x00\xff", 50), someText(16), 1000)
	wantNotLocked(t, "data", someText(4001), "word", salt, 3)
	wantNotLocked(t, "much data", make([]byte, 50000), "word", salt, 3)
	wantNotLocked(t, "pass", []byte("key"), strings.Repeat("p", 101), salt, 3)
	wantNotLocked(t, "salt", []byte("key"), "word", someText(17), 3)
	for _, rounds := range append(farNumbers(), 0, 1001) {
		wantNotLocked(t, "rounds", []byte("key"), "word", salt, rounds)
	}
}

func TestAPlainStoreIsLockedAsTold(t *testing.T) {
	want := impl.Store{Salt: []byte{1, 2}, Rounds: 3, Body: []byte{103, 115, 102, 7, 14, 66, 95, 54, 68, 9, 18, 31, 15}, Tag: 2967456710946322992}
	if got, ok := impl.Lock([]byte("a key to keep"), "word", []byte{1, 2}, 3); !ok || !sameStore(got, want) {
		t.Error("got", got, ok, "want", want)
	}
	if got, code := impl.Unlock(want, "word"); code != 0 || string(got) != "a key to keep" {
		t.Error("got", got, code)
	}
}

func TestStoresThatAreNotSo(t *testing.T) {
	s := wantLocked(t, "plain", []byte("key"), "word", []byte{1, 2}, 3)
	for _, rounds := range append(farNumbers(), 0, 1001) {
		wantLockedStill(t, "rounds", impl.LkBad, changedStore(s, func(s *impl.Store) { s.Rounds = rounds }), "word")
	}
	// What is too long is told as that, though the Tag is so.
	for _, size := range []int{4000, 4001, 30000} {
		long := slowLock(someText(size), "word", nil, 3)
		if size > 4000 {
			wantLockedStill(t, "a long Body", impl.LkBad, long, "word")
			wantLockedStill(t, "a long Body, another word", impl.LkBad, long, "Word")
		} else if got, code := impl.Unlock(long, "word"); code != 0 || !bytes.Equal(got, someText(size)) {
			t.Error(size, code)
		}
	}
	wantLockedStill(t, "much salt", impl.LkBad, slowLock([]byte("key"), "word", someText(17), 3), "word")
	long := strings.Repeat("p", 101)
	wantLockedStill(t, "a long word", impl.LkBad, slowLock([]byte("key"), long, []byte{1}, 3), long)
	wantLockedStill(t, "a long word that is another", impl.LkBad, s, long)
	wantLockedStill(t, "a word of as many bytes as may be", impl.LkPass, s, long[1:])
	wantLockedStill(t, "nothing", impl.LkBad, impl.Store{}, "")
	wantLockedStill(t, "nothing but rounds", impl.LkPass, impl.Store{Rounds: 1}, "")
}

func TestStoresAndOtherWords(t *testing.T) {
	for _, word := range []string{"", "a", "word", "a longer word than that", strings.Repeat("p", 100)} {
		s := wantLocked(t, "plain", []byte("some data"), word, []byte{1, 2, 3}, 5)
		others := []string{word + "a", word + "\x00", " " + word, word + word + "?", strings.ToUpper(word) + "A"}
		for at := range len(word) {
			for bit := range 8 {
				turned := []byte(word)
				turned[at] ^= 1 << bit
				others = append(others, string(turned))
			}
			others = append(others, word[:at])
		}
		for _, other := range others {
			want := int64(impl.LkPass)
			if len(other) > 100 {
				want = impl.LkBad
			}
			wantLockedStill(t, "another word", want, s, other)
		}
	}
}

func TestStoresOfWhichSomethingIsBent(t *testing.T) {
	for _, size := range []int{0, 1, 8, 20} {
		s := wantLocked(t, "plain", someText(size), "word", []byte{1, 2, 3, 4}, 5)
		bend := func(why string, change func(s *impl.Store)) {
			wantLockedStill(t, why, impl.LkPass, changedStore(s, change), "word")
		}
		for at := range s.Body {
			for by := 1; by < 256; by++ {
				bend("Body", func(s *impl.Store) { s.Body[at] ^= byte(by) })
			}
			bend("Body cut", func(s *impl.Store) { s.Body = s.Body[:at] })
		}
		bend("Body longer", func(s *impl.Store) { s.Body = append(s.Body, 0) })
		for bit := range 64 {
			bend("Tag", func(s *impl.Store) { s.Tag ^= 1 << bit })
		}
		for at := range s.Salt {
			for by := 1; by < 256; by++ {
				bend("Salt", func(s *impl.Store) { s.Salt[at] ^= byte(by) })
			}
			bend("Salt cut", func(s *impl.Store) { s.Salt = s.Salt[:at] })
		}
		bend("Salt longer", func(s *impl.Store) { s.Salt = append(s.Salt, 0) })
		for _, rounds := range []int64{1, 4, 6, 10, 1000} {
			bend("Rounds", func(s *impl.Store) { s.Rounds = rounds })
		}
	}
	// What moves from the word to the salt is something else.
	s := wantLocked(t, "plain", []byte("data"), "word", []byte("s"), 5)
	wantLockedStill(t, "moved", impl.LkPass, changedStore(s, func(s *impl.Store) { s.Salt = []byte("ds") }), "wor")
}
