package tests

import (
	"bytes"
	"math"
	"math/rand"
	"slices"
	"testing"

	"loop.example/g00041/impl"
)

func TestTrustConstants(t *testing.T) {
	got := []int64{
		impl.MaxKeys, impl.TfRoot, impl.TfStamp, impl.TfList, impl.TuForm, impl.TuOld, impl.TuSig, impl.TuLate, impl.TuMix,
	}
	if !slices.Equal(got, []int64{6, 1, 2, 3, 1, 2, 3, 4, 5}) {
		t.Error(got)
	}
}

// fileCase is a file that is right, or not.
type fileCase struct {
	why   string
	file  impl.TrustFile
	right bool
}

// fileCasesOf put each number into a field of a file.
func fileCasesOf(why string, base impl.TrustFile, field func(f *impl.TrustFile) *int64, right []int64, wrong []int64) []fileCase {
	var out []fileCase
	for _, n := range right {
		out = append(out, fileCase{why, changedFile(base, func(f *impl.TrustFile) { *field(f) = n }), true})
	}
	for _, n := range append(wrong, math.MinInt64, math.MaxInt64) {
		out = append(out, fileCase{why, changedFile(base, func(f *impl.TrustFile) { *field(f) = n }), false})
	}
	return out
}

func headCases() []fileCase {
	versions, noVersions := []int64{1, 2, 128, 1<<40 - 1, 1 << 40}, []int64{-1, 0, 1<<40 + 1, 1 << 41}
	ends, noEnds := []int64{0, 1, impl.MaxTime - 1, impl.MaxTime}, []int64{-1, impl.MaxTime + 1}
	var out []fileCase
	for _, base := range plainFiles() {
		out = append(out, fileCase{"plain", base, true})
		out = append(out, fileCasesOf("Version", base, versionOf, versions, noVersions)...)
		out = append(out, fileCasesOf("Expires", base, expiresOf, ends, noEnds)...)
		for _, count := range []int{0, 1, 11, 12, 13, 14, 1000} {
			out = append(out, fileCase{"Sigs", changedFile(base, func(f *impl.TrustFile) { *sigsOf(f) = make([]impl.FileSig, count) }), count <= 12})
		}
		for _, size := range []int{0, 1, 499, 500, 501, 502, 5000} {
			for at := range 3 {
				sigs := make([]impl.FileSig, 3)
				sigs[at] = impl.FileSig{Key: math.MaxUint64, Sig: someText(size)}
				out = append(out, fileCase{"Sig", changedFile(base, func(f *impl.TrustFile) { *sigsOf(f) = sigs }), size <= 500})
			}
		}
	}
	listVersion := func(f *impl.TrustFile) *int64 { return &f.Stamp.ListVersion }
	return append(out, fileCasesOf("ListVersion", plainStampFile(), listVersion, versions, noVersions)...)
}

// wrongPubs are keys that are none.
func wrongPubs() []impl.Pub {
	return []impl.Pub{
		{}, {Scheme: 3, Y: 4}, {Scheme: -1, Y: 4}, {Scheme: impl.ScGroup}, {Scheme: impl.ScGroup, Y: 1}, {Scheme: impl.ScGroup, Y: 5}, {Scheme: impl.ScGroup, Y: impl.P},
		{Scheme: impl.ScGroup, Y: impl.P + 4}, {Scheme: impl.ScGroup, Y: 1 << 63}, {Scheme: impl.ScGroup, Y: 4, Height: 1}, {Scheme: impl.ScTree, Y: 4, Height: -1}, {Scheme: impl.ScTree, Y: 4, Height: 6},
	}
}

func roleCases() []fileCase {
	var out []fileCase
	for at := range 3 {
		add := func(why string, role impl.Role, right bool) {
			out = append(out, fileCase{why, changedFile(plainRootFile(), func(f *impl.TrustFile) { f.Root.Roles[at] = role }), right})
		}
		for count := range 9 {
			keys := []int{1, 2, 3, 4, 5, 6, 7, 8}[:count]
			for need := int64(-1); need <= 9; need++ {
				add("Need", roleOf(need, keys...), count >= 1 && count <= 6 && need >= 1 && need <= int64(count))
			}
			for _, need := range farNumbers() {
				add("Need", roleOf(need, keys...), false)
			}
		}
		for place := range 3 {
			for _, wrong := range wrongPubs() {
				role := roleOf(1, 1, 2, 3)
				role.Keys[place] = wrong
				add("a wrong key", role, false)
			}
			for _, right := range []impl.Pub{{Scheme: impl.ScGroup, Y: 4}, {Scheme: impl.ScTree}, {Scheme: impl.ScTree, Y: math.MaxUint64, Height: 5}, {Scheme: impl.ScTree, Y: 4}} {
				role := roleOf(3, 1, 2, 3)
				role.Keys[place] = right
				add("a right key", role, true)
			}
		}
		add("alone twice", roleOf(1, 1, 1), false)
		add("first and last", roleOf(1, 1, 2, 1), false)
		add("the last two", roleOf(1, 1, 2, 3, 4, 6, 6), false)
		tree := impl.Role{Keys: []impl.Pub{{Scheme: impl.ScTree, Y: 4, Height: 1}, {Scheme: impl.ScTree, Y: 4, Height: 2}, {Scheme: impl.ScGroup, Y: 4}}, Need: 3}
		add("unlike in Height or Scheme alone", tree, true)
	}
	for count := range 6 {
		roles := slices.Repeat([]impl.Role{roleOf(1, 1)}, count)
		out = append(out, fileCase{"roles", changedFile(plainRootFile(), func(f *impl.TrustFile) { f.Root.Roles = roles }), count == 3})
	}
	full := slices.Repeat([]impl.Role{roleOf(6, 3, 6, 9, 12, 15, 18)}, 3)
	return append(out, fileCase{"full", changedFile(plainRootFile(), func(f *impl.TrustFile) { f.Root.Version, f.Root.Expires, f.Root.Roles = 1<<40, impl.MaxTime, full }), true})
}

func stampAndListCases() []fileCase {
	var out []fileCase
	for _, hash := range []uint64{0, 1, 1 << 63, math.MaxUint64} {
		out = append(out, fileCase{"ListHash", changedFile(plainStampFile(), func(f *impl.TrustFile) { f.Stamp.ListHash = hash }), true})
	}
	for _, count := range []int{0, 1, 19, 20, 21, 22, 1000} {
		entries := slices.Repeat([]impl.TrustEntry{{Key: math.MaxUint64, Until: impl.MaxTime}}, count)
		out = append(out, fileCase{"Entries", changedFile(plainListFile(), func(f *impl.TrustFile) { f.List.Entries = entries }), count <= 20})
	}
	for at := range 2 {
		until := func(f *impl.TrustFile) *int64 { return &f.List.Entries[at].Until }
		out = append(out, fileCasesOf("Until", plainListFile(), until, []int64{0, 1, impl.MaxTime - 1, impl.MaxTime}, []int64{-1, impl.MaxTime + 1})...)
	}
	return append(out, fileCase{"no key twice", changedFile(plainListFile(), func(f *impl.TrustFile) { f.List.Entries[1] = f.List.Entries[0] }), true})
}

func fileCases() []fileCase {
	return slices.Concat(headCases(), roleCases(), stampAndListCases())
}

// badFile has something wrong in the files of all Kinds.
func badFile(kind int64) impl.TrustFile {
	sigs := make([]impl.FileSig, 13)
	return impl.TrustFile{
		Kind:  kind,
		Root:  impl.RootFile{Version: -1, Roles: []impl.Role{{Need: 9}}, Sigs: sigs},
		Stamp: impl.StampFile{Expires: -1, Sigs: sigs},
		List:  impl.ListFile{Version: 1 << 50, Entries: []impl.TrustEntry{{Until: -1}}, Sigs: sigs},
	}
}

// amongBad is f with something wrong in the fields of other Kinds.
func amongBad(f impl.TrustFile) impl.TrustFile {
	out := badFile(f.Kind)
	switch f.Kind {
	case impl.TfRoot:
		out.Root = f.Root
	case impl.TfStamp:
		out.Stamp = f.Stamp
	case impl.TfList:
		out.List = f.List
	}
	return out
}

func TestFileBody(t *testing.T) {
	right, wrong := 0, 0
	for _, row := range fileCases() {
		if row.right != slowFileOk(row.file) {
			t.Fatal("unsure", row.why, row.file)
		}
		for _, f := range []impl.TrustFile{row.file, amongBad(row.file)} {
			got, ok := impl.FileBody(f)
			if row.right {
				right++
				if !ok || !bytes.Equal(got, slowFileBody(row.file)) {
					t.Error(row.why, row.file, "got", got, ok)
				}
			} else {
				wrong++
				if ok || len(got) != 0 {
					t.Error(row.why, row.file, "got", got, ok)
				}
			}
		}
	}
	if right < 200 || wrong < 500 {
		t.Error("seen too little", right, wrong)
	}
	for _, kind := range append(farNumbers(), 0, 4, 5, 13) {
		for _, f := range plainFiles() {
			f.Root, f.Stamp, f.List = plainRootFile().Root, plainStampFile().Stamp, plainListFile().List
			f.Kind = kind
			if got, ok := impl.FileBody(f); ok || len(got) != 0 {
				t.Error("no Kind", kind, got)
			}
		}
	}
	for kind := range int64(5) {
		if got, ok := impl.FileBody(badFile(kind)); ok || len(got) != 0 {
			t.Error("bad", kind, got)
		}
		if got, ok := impl.FileBody(impl.TrustFile{Kind: kind}); ok || len(got) != 0 {
			t.Error("nothing", kind, got)
		}
	}
}

func TestFileBodyByHand(t *testing.T) {
	one := impl.Role{Keys: []impl.Pub{{Scheme: impl.ScGroup, Y: 4}}, Need: 1}
	role := []byte{48, 23, 49, 18, 48, 16, 2, 1, 1, 4, 8, 0, 0, 0, 0, 0, 0, 0, 4, 2, 1, 0, 2, 1, 1}
	rows := []struct {
		file impl.TrustFile
		want []byte
	}{
		{impl.TrustFile{Kind: impl.TfRoot, Root: impl.RootFile{Version: 1, Expires: 2, Roles: []impl.Role{one, one, one}}}, slices.Concat([]byte{109, 83, 2, 1, 1, 2, 1, 2, 49, 75}, role, role, role)},
		{impl.TrustFile{Kind: impl.TfStamp, Stamp: impl.StampFile{Version: 1, Expires: 2, ListVersion: 3, ListHash: 1<<63 + 5}}, []byte{110, 19, 2, 1, 1, 2, 1, 2, 2, 1, 3, 4, 8, 128, 0, 0, 0, 0, 0, 0, 5}},
		{impl.TrustFile{Kind: impl.TfList, List: impl.ListFile{Version: 128, Expires: 0, Entries: []impl.TrustEntry{{Key: 255, Until: 7}}}}, []byte{111, 24, 2, 2, 0, 128, 2, 1, 0, 49, 15, 48, 13, 4, 8, 0, 0, 0, 0, 0, 0, 0, 255, 2, 1, 7}},
		{impl.TrustFile{Kind: impl.TfList, List: impl.ListFile{Version: 1}}, []byte{111, 8, 2, 1, 1, 2, 1, 0, 49, 0}},
	}
	for _, row := range rows {
		if got, ok := impl.FileBody(row.file); !ok || !bytes.Equal(got, row.want) {
			t.Error(row.file, "got", got, ok)
		}
	}
}

// What signed a file is not in what is signed.
func TestFileBodyWithoutSigs(t *testing.T) {
	for _, f := range plainFiles() {
		want, _ := impl.FileBody(f)
		for range 12 {
			f = signedFile(f, keeper(1))
			if got, ok := impl.FileBody(f); !ok || !bytes.Equal(got, want) {
				t.Error(f.Kind, got, ok)
			}
		}
	}
}

func wantFileSigned(t *testing.T, f impl.TrustFile, s impl.Secret) impl.TrustFile {
	t.Helper()
	got, next, code := impl.SignFile(f, s)
	want := impl.TrustFile{Kind: f.Kind}
	switch f.Kind {
	case impl.TfRoot:
		want.Root = f.Root
	case impl.TfStamp:
		want.Stamp = f.Stamp
	case impl.TfList:
		want.List = f.List
	}
	want = signedFile(want, s)
	if code != 0 || next != goesOn(s) || toldOf(got) != toldOf(want) {
		t.Error("got", got, next, code, "want", want)
	}
	return got
}

func wantFileUnsigned(t *testing.T, why string, f impl.TrustFile, s impl.Secret, want int64) {
	t.Helper()
	if got, next, code := impl.SignFile(f, s); code != want || next != (impl.Secret{}) || toldOf(got) != toldOf(impl.TrustFile{}) {
		t.Error(why, "got", got, next, code, "want", want)
	}
}

func TestSignFile(t *testing.T) {
	for _, base := range plainFiles() {
		for _, s := range rightSecrets() {
			got := wantFileSigned(t, base, s)
			if last := (*sigsOf(&got))[0]; !impl.VerifyAny(pubOfSecret(s), slowFileBody(base), last.Sig) || last.Key != impl.KeyId(pubOfSecret(s)) {
				t.Error("not taken", base.Kind, s)
			}
			wantFileSigned(t, amongBad(base), s)
			wantFileSigned(t, changedFile(base, func(f *impl.TrustFile) { *sigsOf(f) = make([]impl.FileSig, 11) }), s)
			for _, count := range []int{12, 13} {
				wantFileUnsigned(t, "too many", changedFile(base, func(f *impl.TrustFile) { *sigsOf(f) = make([]impl.FileSig, count) }), s, impl.TuForm)
			}
			wantFileUnsigned(t, "bad", badFile(base.Kind), s, impl.TuForm)
		}
		f := base
		for n := range 12 {
			f = wantFileSigned(t, f, keeper(n))
		}
		wantFileUnsigned(t, "a thirteenth", f, keeper(1), impl.TuForm)
		twice := wantFileSigned(t, wantFileSigned(t, base, secretNo(1)), secretNo(1))
		if sigs := *sigsOf(&twice); len(sigs) != 2 || toldOf(sigs[0]) != toldOf(sigs[1]) {
			t.Error("by one twice", sigs)
		}
	}
}

// A key of digests signs with one leaf behind the other, until there is none.
func TestSignFileGoesOn(t *testing.T) {
	for _, f := range plainFiles() {
		s := impl.Secret{Scheme: impl.ScTree, X: 8, Height: 2}
		for next := range int64(4) {
			if s.Next != next {
				t.Fatal(f.Kind, s, next)
			}
			var code int64
			wantFileSigned(t, f, s)
			f, s, code = impl.SignFile(f, s)
			if code != 0 {
				t.Fatal(f.Kind, code)
			}
		}
		if slowSigners(f, impl.Role{Keys: []impl.Pub{pubOfSecret(s)}}) != 1 || len(*sigsOf(&f)) != 4 {
			t.Error("signed", f)
		}
		wantFileUnsigned(t, "used up", f, s, 10+impl.TrEmpty)
	}
}

func TestSignFileOfNone(t *testing.T) {
	for _, f := range plainFiles() {
		for _, s := range wrongSecrets() {
			wantFileUnsigned(t, "no secret", f, s, 10+impl.TrKey)
			wantFileUnsigned(t, "no secret, too many", changedFile(f, func(f *impl.TrustFile) { *sigsOf(f) = make([]impl.FileSig, 12) }), s, impl.TuForm)
			wantFileUnsigned(t, "no secret, bad", badFile(f.Kind), s, impl.TuForm)
		}
		for height := range int64(6) {
			wantFileUnsigned(t, "used up", f, usedUp(height), 10+impl.TrEmpty)
			wantFileUnsigned(t, "used up, bad", badFile(f.Kind), usedUp(height), impl.TuForm)
		}
	}
	for _, kind := range append(farNumbers(), 0, 4) {
		f := impl.TrustFile{Kind: kind, Root: plainRootFile().Root, Stamp: plainStampFile().Stamp, List: plainListFile().List}
		wantFileUnsigned(t, "no Kind", f, secretNo(1), impl.TuForm)
		wantFileUnsigned(t, "no Kind, no secret", f, impl.Secret{}, impl.TuForm)
	}
	for _, row := range fileCases() {
		if !row.right {
			wantFileUnsigned(t, row.why, row.file, secretNo(1), impl.TuForm)
		} else if len(*sigsOf(&row.file)) < 12 {
			wantFileSigned(t, row.file, secretNo(1))
		}
	}
}

// stepBreaker makes a step fail by a code, if nothing that is asked ahead of it fails.
type stepBreaker struct {
	why  string
	code int64
	at   int
	do   func(w *stepping)
}

// sigBreakers leave a file signed by fewer of the keys numbered so than the two that are needed.
func sigBreakers(at int, keys ...int) []stepBreaker {
	by := func(list ...int) func(w *stepping) { return func(w *stepping) { w.by = keepers(list...) } }
	first := func(f *impl.TrustFile) *impl.FileSig { return &(*sigsOf(f))[0] }
	return []stepBreaker{
		{"by nobody", impl.TuSig, at, by()},
		{"by one", impl.TuSig, at, by(keys[0])},
		{"by one twice", impl.TuSig, at, by(keys[1], keys[1])},
		{"by one and a stranger", impl.TuSig, at, by(keys[0], 20, 21)},
		{"by strangers", impl.TuSig, at, by(20, 21, 22, 23)},
		{"by one, with the KeyId of another", impl.TuSig, at, func(w *stepping) {
			w.by = keepers(keys[0], keys[0])
			w.turned = func(f *impl.TrustFile) { first(f).Key = impl.KeyId(pubOfSecret(keeper(keys[1]))) }
		}},
		{"by a stranger, with the KeyId of one", impl.TuSig, at, func(w *stepping) {
			w.by = keepers(20, keys[0])
			w.turned = func(f *impl.TrustFile) { first(f).Key = impl.KeyId(pubOfSecret(keeper(keys[1]))) }
		}},
		{"with the KeyId of nobody", impl.TuSig, at, func(w *stepping) {
			w.by = keepers(keys[0], keys[1])
			w.turned = func(f *impl.TrustFile) { first(f).Key++ }
		}},
		{"of another file", impl.TuSig, at, func(w *stepping) {
			w.by = keepers(keys[0], keys[1])
			other := *w
			w.turned = func(f *impl.TrustFile) {
				*first(f) = fileSigBy(changedFile(other.file, func(f *impl.TrustFile) { *expiresOf(f) += 3 }), keeper(keys[0]))
			}
		}},
		{"with a byte more", impl.TuSig, at, func(w *stepping) {
			w.by = keepers(keys[0], keys[1])
			w.turned = func(f *impl.TrustFile) { first(f).Sig = append(first(f).Sig, 0) }
		}},
	}
}

func formBreakers() []stepBreaker {
	out := []stepBreaker{
		{"the file", impl.TuForm, 0, func(w *stepping) { w.turned = func(f *impl.TrustFile) { *versionOf(f) = 0 } }},
		{"the file's Sigs", impl.TuForm, 0, func(w *stepping) { w.turned = func(f *impl.TrustFile) { *sigsOf(f) = make([]impl.FileSig, 13) } }},
		{"the Kind", impl.TuForm, 0, func(w *stepping) { w.turned = func(f *impl.TrustFile) { f.Kind = 4 } }},
		{"no Kind", impl.TuForm, 0, func(w *stepping) { w.turned = func(f *impl.TrustFile) { f.Kind = 0 } }},
		{"no root", impl.TuForm, 0, func(w *stepping) { w.state.Root = impl.RootFile{} }},
		{"a root of no Version", impl.TuForm, 0, func(w *stepping) { w.state.Root.Version = 0 }},
		{"a root of two roles", impl.TuForm, 0, func(w *stepping) { w.state.Root.Roles = w.state.Root.Roles[:2] }},
		{"a root that was signed too often", impl.TuForm, 0, func(w *stepping) { w.state.Root.Sigs = make([]impl.FileSig, 13) }},
		{"a Stamp below 0", impl.TuForm, 0, func(w *stepping) { w.state.Stamp.Version = -1 }},
		{"a Stamp that is too new", impl.TuForm, 0, func(w *stepping) { w.state.Stamp.Version = 1<<40 + 1 }},
		{"a Stamp that names no list", impl.TuForm, 0, func(w *stepping) { w.state.Stamp.Version, w.state.Stamp.ListVersion, w.untied = 7, 0, true }},
		{"a Stamp that ends at no time", impl.TuForm, 0, func(w *stepping) { w.state.Stamp.Version, w.state.Stamp.Expires = 7, -1 }},
		{"a List below 0", impl.TuForm, 0, func(w *stepping) { w.state.List.Version = -1 }},
		{"a List of too much", impl.TuForm, 0, func(w *stepping) { w.state.List.Entries = make([]impl.TrustEntry, 21) }},
		{"a List with a Sig that is too long", impl.TuForm, 0, func(w *stepping) { w.state.List.Sigs = []impl.FileSig{{Sig: make([]byte, 501)}} }},
	}
	return out
}

func rootLate(at int) []stepBreaker {
	return []stepBreaker{
		{"the root's Expires is now", impl.TuLate, at, func(w *stepping) { w.state.Root.Expires = w.now }},
		{"the root's Expires is one less", impl.TuLate, at, func(w *stepping) { w.state.Root.Expires = w.now - 1 }},
	}
}

func ownLate(at int) []stepBreaker {
	return []stepBreaker{
		{"Expires is now", impl.TuLate, at, func(w *stepping) { *expiresOf(&w.file) = w.now }},
		{"Expires is one less", impl.TuLate, at, func(w *stepping) { *expiresOf(&w.file) = w.now - 1 }},
		{"Expires is 0", impl.TuLate, at, func(w *stepping) { *expiresOf(&w.file) = 0 }},
	}
}

func rootBreakers() []stepBreaker {
	version := func(more int64) func(w *stepping) {
		return func(w *stepping) { w.file.Root.Version = w.state.Root.Version + more }
	}
	out := []stepBreaker{
		{"the same Version", impl.TuOld, 1, version(0)}, {"one less", impl.TuOld, 1, version(-1)},
		{"two more", impl.TuOld, 1, version(2)}, {"many more", impl.TuOld, 1, version(1 << 39)},
	}
	others := func(by ...int) func(w *stepping) {
		return func(w *stepping) { w.file.Root.Roles[0], w.by = roleOf(2, 10, 11, 12), keepers(by...) }
	}
	out = append(out, sigBreakers(2, 1, 3)...)
	out = append(out,
		stepBreaker{"by the old role alone", impl.TuSig, 2, others(1, 2, 3)}, stepBreaker{"by its own alone", impl.TuSig, 2, others(10, 11, 12)},
		stepBreaker{"by one less of the old role", impl.TuSig, 2, others(1, 10, 11, 12)}, stepBreaker{"by one less of its own", impl.TuSig, 2, others(1, 2, 3, 12)},
		stepBreaker{"its own needs more", impl.TuSig, 2, func(w *stepping) { w.file.Root.Roles[0].Need = 3 }},
		stepBreaker{"the old role needs more", impl.TuSig, 2, func(w *stepping) { w.state.Root.Roles[0].Need = 3 }},
	)
	return append(out, ownLate(3)...)
}

func stampFileBreakers() []stepBreaker {
	out := slices.Concat(rootLate(1), sigBreakers(2, 4, 6), []stepBreaker{
		{"by the role of roots", impl.TuSig, 2, func(w *stepping) { w.by = keepers(1, 2, 3) }},
		{"by the role of lists", impl.TuSig, 2, func(w *stepping) { w.by = keepers(7, 8, 9) }},
		{"one less", impl.TuOld, 3, func(w *stepping) { w.file.Stamp.Version = w.state.Stamp.Version - 1 }},
		{"much less", impl.TuOld, 3, func(w *stepping) { w.file.Stamp.Version = 1 }},
		{"ListVersion one less", impl.TuOld, 3, func(w *stepping) { w.file.Stamp.ListVersion = w.state.Stamp.ListVersion - 1 }},
		{"ListVersion less than without a Stamp", impl.TuOld, 3, func(w *stepping) {
			w.state.Stamp = impl.StampFile{ListVersion: w.file.Stamp.ListVersion + 1}
		}},
		{"the same Version, another Hash", impl.TuOld, 3, func(w *stepping) {
			w.file.Stamp.Version = w.state.Stamp.Version
			w.file.Stamp.ListHash++
		}},
		{"the same Version, a later ListVersion", impl.TuOld, 3, func(w *stepping) {
			w.file.Stamp.Version = w.state.Stamp.Version
			w.file.Stamp.ListVersion++
		}},
		{"the same Version, another Expires", impl.TuOld, 3, func(w *stepping) {
			w.state.Stamp.Version = w.file.Stamp.Version
			w.state.Stamp.Expires = 901
		}},
	})
	return append(out, ownLate(4)...)
}

func listFileBreakers() []stepBreaker {
	out := slices.Concat(rootLate(1), []stepBreaker{
		{"the Stamp's Expires is now", impl.TuLate, 1, func(w *stepping) { w.state.Stamp.Expires = w.now }},
		{"the Stamp's Expires is one less", impl.TuLate, 1, func(w *stepping) { w.state.Stamp.Expires = w.now - 1 }},
		{"another Hash", impl.TuMix, 2, func(w *stepping) { w.untied, w.state.Stamp.ListVersion = true, w.file.List.Version }},
		{"a Version one more than the Stamp's", impl.TuMix, 2, func(w *stepping) {
			w.untied, w.state.Stamp.ListVersion = true, w.file.List.Version-1
			w.state.Stamp.ListHash = slowDigest(slowFileBody(w.file))
		}},
		{"a Version one less than the Stamp's", impl.TuMix, 2, func(w *stepping) {
			w.untied, w.state.Stamp.ListVersion = true, w.file.List.Version+1
			w.state.Stamp.ListHash = slowDigest(slowFileBody(w.file))
		}},
	}, sigBreakers(3, 8, 9), []stepBreaker{
		{"by the role of roots", impl.TuSig, 3, func(w *stepping) { w.by = keepers(1, 2, 3) }},
		{"by the role of stamps", impl.TuSig, 3, func(w *stepping) { w.by = keepers(4, 5, 6) }},
		{"older than the List", impl.TuOld, 4, func(w *stepping) { w.state.List.Version = w.file.List.Version + 1 }},
		{"much older than the List", impl.TuOld, 4, func(w *stepping) { w.state.List.Version = 1 << 40 }},
	})
	return append(out, ownLate(5)...)
}

func breakersOf(kind int64) []stepBreaker {
	own := rootBreakers()
	switch kind {
	case impl.TfStamp:
		own = stampFileBreakers()
	case impl.TfList:
		own = listFileBreakers()
	}
	return append(formBreakers(), own...)
}

func TestEachCodeOfTrustStep(t *testing.T) {
	for kind := int64(1); kind <= 3; kind++ {
		wantStep(t, "plain", plainStepping(kind), 0)
		for _, b := range breakersOf(kind) {
			wantStep(t, b.why, plainStepping(kind).with(b.do), b.code)
		}
	}
}

func TestWhichCodeTrustStepTells(t *testing.T) {
	pairs := map[[3]int64]int{}
	for kind := int64(1); kind <= 3; kind++ {
		list := breakersOf(kind)
		for _, a := range list {
			for _, b := range list {
				if a.at >= b.at {
					continue
				}
				wantStep(t, a.why+", "+b.why, plainStepping(kind).with(b.do, a.do), a.code)
				pairs[[3]int64{kind, a.code, b.code}]++
			}
		}
	}
	// Of roots 1 2 3 4, of stamps 1 4 3 2 4, of lists 1 4 5 3 2 4: each ahead of each.
	if len(pairs) != 6+9+14 {
		t.Error("pairs", len(pairs), pairs)
	}
}

func TestRootVersions(t *testing.T) {
	for _, version := range []int64{1, 2, 127, 1<<40 - 2, 1<<40 - 1} {
		w := plainStepping(impl.TfRoot).with(func(w *stepping) { w.state.Root.Version, w.file.Root.Version = version, version+1 })
		if got := wantStep(t, "one more", w, 0); got.Root.Version != version+1 {
			t.Error(got.Root)
		}
	}
	last := plainStepping(impl.TfRoot).with(func(w *stepping) { w.state.Root.Version, w.file.Root.Version = 1<<40, 1<<40+1 })
	wantStep(t, "behind the last", last, impl.TuForm)
	for _, late := range []int64{0, 99, 100} {
		w := plainStepping(impl.TfRoot).with(func(w *stepping) {
			w.state.Root.Expires, w.state.Stamp.Expires, w.state.List.Expires = late, late, late
		})
		wantStep(t, "a client that is late gets the next root", w, 0)
	}
	w := plainStepping(impl.TfRoot).with(func(w *stepping) { w.state.Root.Sigs = nil })
	wantStep(t, "whatever signed the first one", w, 0)
}

func TestRootsSignedByBoth(t *testing.T) {
	others := func(need int64, by ...int) stepping {
		return plainStepping(impl.TfRoot).with(func(w *stepping) {
			w.file.Root.Roles[0], w.by = roleOf(need, 10, 11, 12), keepers(by...)
		})
	}
	got := wantStep(t, "by both", others(2, 1, 2, 11, 12), 0)
	if toldOf(got.Root.Roles[0]) != toldOf(roleOf(2, 10, 11, 12)) || got.Stamp.Version != 7 || got.List.Version != 3 {
		t.Error("a new role of roots makes nothing forgotten", got)
	}
	wantStep(t, "by both, strangers between", others(3, 30, 11, 3, 31, 12, 1, 10, 32), 0)
	wantStep(t, "one is enough", others(1, 2, 1, 10), 0)
	wantStep(t, "one less of its own", others(3, 1, 2, 10, 11, 10, 11), impl.TuSig)
	wantStep(t, "one less of the old", others(1, 2, 2, 10, 11, 12), impl.TuSig)
	overlap := func(by ...int) stepping {
		return plainStepping(impl.TfRoot).with(func(w *stepping) { w.file.Root.Roles[0], w.by = roleOf(2, 3, 10), keepers(by...) })
	}
	wantStep(t, "one counts for both", overlap(1, 3, 10), 0)
	wantStep(t, "one counts for both, not twice", overlap(3, 3, 10), impl.TuSig)
	wantStep(t, "one counts for both, its own lack", overlap(1, 2, 3), impl.TuSig)
}

func TestWhatANewRootMakesForgotten(t *testing.T) {
	roles := []struct {
		why  string
		role func(first int) impl.Role
		is   bool
	}{
		{"the same", func(k int) impl.Role { return roleOf(2, k, k+1, k+2) }, false},
		{"another key", func(k int) impl.Role { return roleOf(2, k, k+1, 15) }, true},
		{"another first key", func(k int) impl.Role { return roleOf(2, 15, k+1, k+2) }, true},
		{"a key more", func(k int) impl.Role { return roleOf(2, k, k+1, k+2, 15) }, true},
		{"a key less", func(k int) impl.Role { return roleOf(2, k, k+1) }, true},
		{"another order", func(k int) impl.Role { return roleOf(2, k, k+2, k+1) }, true},
		{"Need one more", func(k int) impl.Role { return roleOf(3, k, k+1, k+2) }, true},
		{"Need one less", func(k int) impl.Role { return roleOf(1, k, k+1, k+2) }, true},
		{"all other keys", func(k int) impl.Role { return roleOf(2, 15, 16, 17) }, true},
	}
	for _, roots := range roles {
		for _, stamps := range roles {
			for _, lists := range roles {
				w := plainStepping(impl.TfRoot).with(func(w *stepping) {
					w.file.Root.Roles = []impl.Role{roots.role(1), stamps.role(4), lists.role(7)}
					w.by = keepers(1, 2, 3, 15, 16, 17)
				})
				got := wantStep(t, roots.why+", "+stamps.why+", "+lists.why, w, 0)
				noStamp, noList := toldOf(got.Stamp) == toldOf(impl.StampFile{}), toldOf(got.List) == toldOf(impl.ListFile{})
				if noStamp != stamps.is || noList != (stamps.is || lists.is) || !noStamp && got.Stamp.Version != 7 || !noList && got.List.Version != 3 {
					t.Error(roots.why, stamps.why, lists.why, got)
				}
			}
		}
	}
	// Without a Version a Stamp and a List are forgotten whole, or stay whole.
	some := impl.TrustState{Root: plainState().Root, Stamp: impl.StampFile{ListVersion: 9, Expires: -5}, List: impl.ListFile{Expires: 6, Entries: make([]impl.TrustEntry, 30)}}
	kept := wantStep(t, "none kept", plainStepping(impl.TfRoot).with(func(w *stepping) { w.state = some }), 0)
	if kept.Stamp.ListVersion != 9 || len(kept.List.Entries) != 30 {
		t.Error("kept", kept)
	}
	gone := wantStep(t, "none forgotten", plainStepping(impl.TfRoot).with(func(w *stepping) { w.state, w.file.Root.Roles[1].Need = some, 1 }), 0)
	if toldOf(gone.Stamp) != toldOf(impl.StampFile{}) || toldOf(gone.List) != toldOf(impl.ListFile{}) {
		t.Error("forgotten", gone)
	}
}

func TestStampsAgain(t *testing.T) {
	again := plainStepping(impl.TfStamp).with(func(w *stepping) { w.file = plainStampFile() })
	if got := wantStep(t, "the same again", again, 0); got.Stamp.Sigs[1].Key != impl.KeyId(pubOfSecret(keeper(5))) {
		t.Error("its Sigs are taken", got.Stamp)
	}
	wantStep(t, "the same, late by now", again.with(func(w *stepping) { w.now = 900 }), impl.TuLate)
	wantStep(t, "the same, not yet late", again.with(func(w *stepping) { w.now = 899 }), 0)
	for _, more := range []int64{1, 2, 1 << 30} {
		w := plainStepping(impl.TfStamp).with(func(w *stepping) { w.file.Stamp.Version = 7 + more })
		wantStep(t, "newer", w, 0)
		wantStep(t, "newer, of a newer list", w.with(func(w *stepping) { w.file.Stamp.ListVersion = 3 + more }), 0)
		wantStep(t, "newer, of the same list", w.with(func(w *stepping) { w.file.Stamp.ListVersion = 3 }), 0)
		wantStep(t, "newer, of an older list", w.with(func(w *stepping) { w.file.Stamp.ListVersion = 2 }), impl.TuOld)
		other := w.with(func(w *stepping) { w.file.Stamp.ListHash = 0 })
		if got := wantStep(t, "newer, of another list with this Version", other, 0); got.List.Version != 3 || impl.Trusted(got, 9, 0, 100) {
			t.Error("the List stays, and is not trusted", got)
		}
	}
	none := func(listVersion int64) stepping {
		return plainStepping(impl.TfStamp).with(func(w *stepping) {
			w.state.Stamp = impl.StampFile{Expires: -1, ListVersion: listVersion, Sigs: make([]impl.FileSig, 20)}
			w.file.Stamp.Version = 1
		})
	}
	for _, n := range []int64{math.MinInt64, -1, 0, 1, 2, 3} {
		wantStep(t, "no Stamp yet", none(n), 0)
	}
	for _, n := range []int64{4, 5, 1 << 50, math.MaxInt64} {
		wantStep(t, "no Stamp yet, but a list", none(n), impl.TuOld)
	}
	wantStep(t, "without a List", plainStepping(impl.TfStamp).with(func(w *stepping) { w.state.List = impl.ListFile{} }), 0)
	wantStep(t, "with a List that is late", plainStepping(impl.TfStamp).with(func(w *stepping) { w.state.List.Expires = 1 }), 0)
	wantStep(t, "with a Stamp that is late", plainStepping(impl.TfStamp).with(func(w *stepping) { w.state.Stamp.Expires = 1 }), 0)
}

func TestListsAgain(t *testing.T) {
	again := plainStepping(impl.TfList).with(func(w *stepping) { w.file = plainListFile() })
	if got := wantStep(t, "the same again", again, 0); got.List.Sigs[0].Key != impl.KeyId(pubOfSecret(keeper(8))) {
		t.Error("its Sigs are taken", got.List)
	}
	wantStep(t, "another of the same Version", again.with(func(w *stepping) { w.file.List.Entries = nil }), 0)
	for _, version := range []int64{1, 2} {
		forgot := again.with(func(w *stepping) {
			w.file.List.Version, w.state.List = version, impl.ListFile{Entries: make([]impl.TrustEntry, 25)}
		})
		wantStep(t, "older, but the List is forgotten", forgot, 0)
		wantStep(t, "older", again.with(func(w *stepping) { w.file.List.Version = version }), impl.TuOld)
	}
	late := func(expires int64, version int64) stepping {
		return plainStepping(impl.TfList).with(func(w *stepping) { w.state.Stamp.Expires, w.state.Stamp.Version = expires, version })
	}
	wantStep(t, "no Stamp", late(900, 0), impl.TuMix)
	wantStep(t, "no Stamp, that would be late", late(50, 0), impl.TuMix)
	wantStep(t, "no Stamp, at no time", late(-7, 0), impl.TuMix)
	wantStep(t, "a Stamp that is late", late(50, 1), impl.TuLate)
	wantStep(t, "a List that is late", plainStepping(impl.TfList).with(func(w *stepping) { w.state.List.Expires = 1 }), 0)
}

func TestTimesOfTrustStep(t *testing.T) {
	for kind := int64(1); kind <= 3; kind++ {
		for _, now := range []int64{math.MinInt64, -1, 0, 1, 499} {
			w := plainStepping(kind).with(func(w *stepping) { w.now = now })
			*expiresOf(&w.file) = 500
			wantStep(t, "ahead", w, 0)
		}
		for _, now := range []int64{500, 501, impl.MaxTime, math.MaxInt64} {
			w := plainStepping(kind).with(func(w *stepping) { w.now = now })
			*expiresOf(&w.file) = 500
			wantStep(t, "behind", w, impl.TuLate)
		}
		zero := plainStepping(kind).with(func(w *stepping) { w.now = -1 })
		*expiresOf(&zero.file) = 0
		wantStep(t, "at 0", zero, 0)
		for _, row := range [][2]int64{{99, impl.TuLate}, {100, impl.TuLate}, {101, 0}} {
			want := row[1]
			if kind == impl.TfRoot {
				want = 0
			}
			wantStep(t, "the root's Expires", plainStepping(kind).with(func(w *stepping) { w.state.Root.Expires = row[0] }), want)
			if kind == impl.TfList {
				wantStep(t, "the Stamp's Expires", plainStepping(kind).with(func(w *stepping) { w.state.Stamp.Expires = row[0] }), want)
			}
			wantStep(t, "its own Expires", plainStepping(kind).with(func(w *stepping) { *expiresOf(&w.file) = row[0] }), row[1])
		}
	}
}

// What f has in the fields of other Kinds is not looked at.
func TestTrustStepAmongBad(t *testing.T) {
	for kind := int64(1); kind <= 3; kind++ {
		s, f, now := plainStepping(kind).args()
		want, _ := impl.TrustStep(s, f, now)
		if got, code := impl.TrustStep(s, amongBad(f), now); code != 0 || toldOf(got) != toldOf(want) {
			t.Error(kind, got, code)
		}
	}
}

func TestNeedOfRoles(t *testing.T) {
	for kind := int64(1); kind <= 3; kind++ {
		for count := 1; count <= 6; count++ {
			keys := []int{10, 11, 12, 13, 14, 15}[:count]
			for need := int64(1); need <= int64(count); need++ {
				for by := range count + 1 {
					w := plainStepping(kind).with(func(w *stepping) {
						w.state.Root.Roles[kind-1], w.by = roleOf(need, keys...), keepers(keys[count-by:]...)
						if kind == impl.TfRoot {
							w.file.Root.Roles = w.state.Root.Roles
						}
					})
					want := int64(0)
					if int64(by) < need {
						want = impl.TuSig
					}
					wantStep(t, "Need", w, want)
				}
			}
		}
	}
}

func TestTrusted(t *testing.T) {
	s := plainState()
	for _, row := range []struct {
		key     uint64
		at, now int64
		want    bool
	}{
		{9, 70, 100, true}, {9, 69, 100, true}, {9, 71, 100, false}, {9, 0, 100, true}, {9, -1, 100, true}, {9, math.MinInt64, 100, true}, {9, math.MaxInt64, 100, false},
		{1 << 63, 80, 100, true}, {1 << 63, 81, 100, false}, {8, 0, 100, false}, {0, 0, 100, false}, {9 + 1<<63, 0, 100, false},
		{9, 70, 799, true}, {9, 70, 800, false}, {9, 70, 801, false}, {9, 70, -1, true}, {9, 70, math.MinInt64, true}, {9, 70, math.MaxInt64, false},
	} {
		wantTrusted(t, "plain", s, row.key, row.at, row.now, row.want)
	}
	of := func(why string, want bool, change func(s *impl.TrustState)) {
		t.Helper()
		wantTrusted(t, why, changedState(s, change), 9, 70, 100, want)
	}
	for _, row := range []struct {
		expires int64
		want    bool
	}{{99, false}, {100, false}, {101, true}, {0, false}, {-1, false}, {impl.MaxTime, true}, {impl.MaxTime + 1, false}} {
		of("the root's", row.want, func(s *impl.TrustState) { s.Root.Expires = row.expires })
		of("the Stamp's", row.want, func(s *impl.TrustState) { s.Stamp.Expires = row.expires })
		of("the List's", row.want, func(s *impl.TrustState) {
			s.List.Expires = row.expires
			s.Stamp.ListHash = slowDigest(slowFileBody(impl.TrustFile{Kind: impl.TfList, List: s.List}))
		})
		of("the List's, of another Hash", false, func(s *impl.TrustState) { s.List.Expires = row.expires })
	}
	of("no Stamp", false, func(s *impl.TrustState) { s.Stamp = impl.StampFile{} })
	of("a Stamp without a Version", false, func(s *impl.TrustState) { s.Stamp.Version = 0 })
	of("a Stamp below 0", false, func(s *impl.TrustState) { s.Stamp.Version = -1 })
	of("no List", false, func(s *impl.TrustState) { s.List = impl.ListFile{} })
	of("no root", false, func(s *impl.TrustState) { s.Root = impl.RootFile{} })
	of("a root with a role too much", false, func(s *impl.TrustState) { s.Root.Roles = append(s.Root.Roles, s.Root.Roles[0]) })
	of("a root of Version 0", false, func(s *impl.TrustState) { s.Root.Version = 0 })
	of("a Stamp with 13 Sigs", false, func(s *impl.TrustState) { s.Stamp.Sigs = make([]impl.FileSig, 13) })
	of("a List with 13 Sigs", false, func(s *impl.TrustState) { s.List.Sigs = make([]impl.FileSig, 13) })
	of("a Stamp of another Version", false, func(s *impl.TrustState) { s.Stamp.ListVersion++ })
	of("a Stamp of an older list", false, func(s *impl.TrustState) { s.Stamp.ListVersion-- })
	of("a Stamp of another Hash", false, func(s *impl.TrustState) { s.Stamp.ListHash++ })
	of("signed by nobody", true, func(s *impl.TrustState) { s.Root.Sigs, s.Stamp.Sigs, s.List.Sigs = nil, nil, nil })
	of("another Version, of one Hash", false, func(s *impl.TrustState) {
		s.Stamp.ListVersion++
		s.Stamp.ListHash = slowDigest(slowFileBody(impl.TrustFile{Kind: impl.TfList, List: s.List}))
	})
	of("a List without a Version", false, func(s *impl.TrustState) {
		s.List.Version, s.Stamp.ListVersion = 0, 0
		s.Stamp.ListHash = slowDigest(slowFileBody(impl.TrustFile{Kind: impl.TfList, List: s.List}))
	})
}

func TestTrustedTwice(t *testing.T) {
	for _, entries := range [][]impl.TrustEntry{
		{{Key: 5, Until: 10}, {Key: 5, Until: 30}},
		{{Key: 5, Until: 30}, {Key: 5, Until: 10}},
		{{Key: 5, Until: 10}, {Key: 6, Until: 90}, {Key: 5, Until: 30}, {Key: 5, Until: 20}},
	} {
		s := changedState(plainState(), func(s *impl.TrustState) {
			s.List.Entries = entries
			s.Stamp.ListHash = slowDigest(slowFileBody(impl.TrustFile{Kind: impl.TfList, List: s.List}))
		})
		for _, row := range []struct {
			at   int64
			want bool
		}{{9, true}, {10, true}, {11, true}, {29, true}, {30, true}, {31, false}, {90, false}} {
			wantTrusted(t, "twice", s, 5, row.at, 100, row.want)
		}
	}
}

// mayForget tells whether a root lets go of the Stamp, and of the List.
func mayForget(f impl.TrustFile, was impl.TrustState) (bool, bool) {
	if f.Kind != impl.TfRoot {
		return false, false
	}
	stamps := toldOf(f.Root.Roles[1]) != toldOf(was.Root.Roles[1])
	return stamps, stamps || toldOf(f.Root.Roles[2]) != toldOf(was.Root.Roles[2])
}

// Promise 23, of a client that is told anything by anybody.
func checkNotRolledBack(t *testing.T, was impl.TrustState, f impl.TrustFile, is impl.TrustState) {
	t.Helper()
	stampGone, listGone := mayForget(f, was)
	if is.Root.Version < was.Root.Version || !stampGone && (is.Stamp.Version < was.Stamp.Version || is.Stamp.ListVersion < was.Stamp.ListVersion) || !listGone && is.List.Version < was.List.Version {
		t.Fatal("rolled back", was, f, is)
	}
	if role := was.Root.Roles[f.Kind-1]; slowSigners(f, role) < role.Need {
		t.Fatal("signed by too few", was, f)
	}
}

func TestClientsThatAreToldAnything(t *testing.T) {
	r := rand.New(rand.NewSource(221))
	var codes [4][6]int
	trusted, mixed, forgot := 0, 0, 0
	for range 150 {
		s := impl.TrustState{Root: impl.RootFile{Version: 1, Expires: 60, Roles: []impl.Role{anyRole(r, 1), anyRole(r, 4), anyRole(r, 7)}}}
		newest, now := impl.ListFile{Version: 1, Expires: 60, Entries: anyEntries(r)}, int64(0)
		for range 60 {
			now += r.Int63n(3) / 2
			if r.Intn(6) == 0 {
				newest = impl.ListFile{Version: newest.Version + oneOf[int64](r, 0, 1, 1), Expires: now + oneOf[int64](r, 0, 10, 30), Entries: anyEntries(r)}
			}
			f := anyFileFor(r, s, newest, now)
			want, wantCode := slowTrustStep(s, f, now)
			got, code := impl.TrustStep(s, f, now)
			if code != wantCode || toldOf(got) != toldOf(want) {
				t.Fatal(s, f, now, "got", got, code, "want", want, wantCode)
			}
			codes[f.Kind][code]++
			if code == 0 {
				checkNotRolledBack(t, s, f, got)
				if stampGone, _ := mayForget(f, s); stampGone && s.Stamp.Version > 0 {
					forgot++
				}
			}
			s = got
			for range 4 {
				key, at := r.Uint64()%5, r.Int63n(6)
				is := impl.Trusted(s, key, at, now)
				if is != slowTrusted(s, key, at, now) {
					t.Fatal(s, key, at, now, "got", is)
				}
				if is {
					trusted++
				} else if s.Stamp.Version > 0 && s.List.Version > 0 {
					mixed++
				}
			}
		}
	}
	for kind, rows := range [][]int{{}, {0, 1, 2, 3, 4}, {0, 1, 2, 3, 4}, {0, 1, 3, 4, 5}} {
		for _, code := range rows {
			if codes[kind][code] < 20 {
				t.Error("kind", kind, "code", code, "seen", codes[kind][code])
			}
		}
	}
	if trusted < 300 || mixed < 300 || forgot < 30 {
		t.Error("seen too little", trusted, mixed, forgot)
	}
}

// Whatever comes again out of an older time, in any order: nothing goes back.
func TestOldFilesAgain(t *testing.T) {
	r := rand.New(rand.NewSource(222))
	var old []impl.TrustFile
	s := impl.TrustState{Root: plainRootFile().Root}
	for version := int64(1); version <= 12; version++ {
		list := changedFile(plainListFile(), func(f *impl.TrustFile) { f.List.Version, f.List.Entries[0].Until = version, version })
		body := slowFileBody(list)
		stamp := changedFile(plainStampFile(), func(f *impl.TrustFile) {
			f.Stamp.Version, f.Stamp.ListVersion, f.Stamp.ListHash = version, version, slowDigest(body)
		})
		old = append(old, signedFile(stamp, keepers(4, 5)...), signedFile(list, keepers(7, 8)...))
	}
	for i, f := range old {
		is, code := impl.TrustStep(s, f, 100)
		if code != 0 {
			t.Fatal("in order", i, code)
		}
		s = is
		for range 30 {
			at := r.Intn(len(old))
			got, code := impl.TrustStep(s, old[at], 100)
			if at < i-1 && (code == 0 || toldOf(got) != toldOf(s)) {
				t.Fatal("an older one again", i, at, code)
			}
			if at > i+1 && old[at].Kind == impl.TfList && code != impl.TuMix {
				t.Fatal("a list ahead of its stamp", i, at, code)
			}
		}
		if until := int64(i/2) + 1; i%2 == 1 {
			wantTrusted(t, "the newest", s, 9, until, 100, true)
			wantTrusted(t, "the newest", s, 9, until+1, 100, false)
		} else {
			wantTrusted(t, "between", s, 9, 0, 100, false)
		}
	}
}
