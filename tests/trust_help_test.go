package tests

import (
	"bytes"
	"math/rand"
	"slices"
	"testing"

	"loop.example/g00041/impl"
)

// roleOf has the keys of the secrets with these numbers.
func roleOf(need int64, keys ...int) impl.Role {
	out := impl.Role{Need: need}
	for _, n := range keys {
		out.Keys = append(out.Keys, pubOfSecret(keeper(n)))
	}
	return out
}

// keeper are the secrets by which files are signed: every third is of digests.
func keeper(n int) impl.Secret {
	if n%3 == 0 {
		return treeNo(n)
	}
	return secretNo(n)
}

func keepers(list ...int) []impl.Secret {
	var out []impl.Secret
	for _, n := range list {
		out = append(out, keeper(n))
	}
	return out
}

func plainRoles() []impl.Role {
	return []impl.Role{roleOf(2, 1, 2, 3), roleOf(2, 4, 5, 6), roleOf(2, 7, 8, 9)}
}

func plainRootFile() impl.TrustFile {
	return impl.TrustFile{Kind: impl.TfRoot, Root: impl.RootFile{Version: 5, Expires: 1000, Roles: plainRoles()}}
}

func plainStampFile() impl.TrustFile {
	return impl.TrustFile{Kind: impl.TfStamp, Stamp: impl.StampFile{Version: 7, Expires: 900, ListVersion: 3, ListHash: slowDigest(slowFileBody(plainListFile()))}}
}

func plainListFile() impl.TrustFile {
	entries := []impl.TrustEntry{{Key: 9, Until: 70}, {Key: 1 << 63, Until: 80}}
	return impl.TrustFile{Kind: impl.TfList, List: impl.ListFile{Version: 3, Expires: 800, Entries: entries}}
}

func plainFiles() []impl.TrustFile {
	return []impl.TrustFile{plainRootFile(), plainStampFile(), plainListFile()}
}

// plainState has all three files, which were signed by as many as are needed.
func plainState() impl.TrustState {
	return impl.TrustState{
		Root:  signedFile(plainRootFile(), keepers(1, 3)...).Root,
		Stamp: signedFile(plainStampFile(), keepers(4, 6)...).Stamp,
		List:  signedFile(plainListFile(), keepers(7, 8)...).List,
	}
}

func sigsOf(f *impl.TrustFile) *[]impl.FileSig {
	switch f.Kind {
	case impl.TfRoot:
		return &f.Root.Sigs
	case impl.TfStamp:
		return &f.Stamp.Sigs
	}
	return &f.List.Sigs
}

func versionOf(f *impl.TrustFile) *int64 {
	switch f.Kind {
	case impl.TfRoot:
		return &f.Root.Version
	case impl.TfStamp:
		return &f.Stamp.Version
	}
	return &f.List.Version
}

func expiresOf(f *impl.TrustFile) *int64 {
	switch f.Kind {
	case impl.TfRoot:
		return &f.Root.Expires
	case impl.TfStamp:
		return &f.Stamp.Expires
	}
	return &f.List.Expires
}

func copySigs(list []impl.FileSig) []impl.FileSig {
	var out []impl.FileSig
	for _, s := range list {
		out = append(out, impl.FileSig{Key: s.Key, Sig: bytes.Clone(s.Sig)})
	}
	return out
}

func copyRoot(f impl.RootFile) impl.RootFile {
	roles := f.Roles
	f.Roles, f.Sigs = nil, copySigs(f.Sigs)
	for _, r := range roles {
		f.Roles = append(f.Roles, impl.Role{Keys: slices.Clone(r.Keys), Need: r.Need})
	}
	return f
}

func copyState(s impl.TrustState) impl.TrustState {
	s.Root, s.Stamp.Sigs = copyRoot(s.Root), copySigs(s.Stamp.Sigs)
	s.List.Entries, s.List.Sigs = slices.Clone(s.List.Entries), copySigs(s.List.Sigs)
	return s
}

func copyFile(f impl.TrustFile) impl.TrustFile {
	s := copyState(impl.TrustState{Root: f.Root, Stamp: f.Stamp, List: f.List})
	return impl.TrustFile{Kind: f.Kind, Root: s.Root, Stamp: s.Stamp, List: s.List}
}

func changedFile(f impl.TrustFile, change func(f *impl.TrustFile)) impl.TrustFile {
	f = copyFile(f)
	change(&f)
	return f
}

func changedState(s impl.TrustState, change func(s *impl.TrustState)) impl.TrustState {
	s = copyState(s)
	change(&s)
	return s
}

func slowRole(r impl.Role) []byte {
	return slowStruct(slowList(r.Keys, slowPub), slowNumber(r.Need))
}

func slowEntry(e impl.TrustEntry) []byte {
	return slowStruct(slowText(string(eight(e.Key))), slowNumber(e.Until))
}

// slowFileBody is of a file of some Kind, whether it is right or not.
func slowFileBody(f impl.TrustFile) []byte {
	head := append(slowNumber(*versionOf(&f)), slowNumber(*expiresOf(&f))...)
	switch f.Kind {
	case impl.TfRoot:
		return around(64+32+13, head, slowList(f.Root.Roles, slowRole))
	case impl.TfStamp:
		return around(64+32+14, head, slowNumber(f.Stamp.ListVersion), slowText(string(eight(f.Stamp.ListHash))))
	}
	return around(64+32+15, head, slowList(f.List.Entries, slowEntry))
}

func fileSigBy(f impl.TrustFile, s impl.Secret) impl.FileSig {
	return impl.FileSig{Key: impl.KeyId(pubOfSecret(s)), Sig: slowBytes(s, slowFileBody(f))}
}

// signedFile signs what is there, whether it is right or not.
func signedFile(f impl.TrustFile, by ...impl.Secret) impl.TrustFile {
	f = copyFile(f)
	for _, s := range by {
		*sigsOf(&f) = append(*sigsOf(&f), fileSigBy(f, s))
	}
	return f
}

func isVersionOf(n int64) bool { return within(n, 1, 1<<40) }

func slowPubOk(p impl.Pub) bool {
	if p.Scheme == impl.ScTree {
		return within(p.Height, 0, 5)
	}
	y := int64(p.Y)
	return p.Scheme == impl.ScGroup && p.Height == 0 && within(y, 2, impl.P-1) && bigPow(y, impl.Q, impl.P) == 1
}

func slowRoleOk(r impl.Role) bool {
	ids := map[uint64]bool{}
	for _, p := range r.Keys {
		if !slowPubOk(p) {
			return false
		}
		ids[impl.KeyId(p)] = true
	}
	return len(r.Keys) <= 6 && len(ids) == len(r.Keys) && r.Need > 0 && r.Need <= int64(len(ids))
}

func slowFileOk(f impl.TrustFile) bool {
	if !within(f.Kind, 1, 3) || !isVersionOf(*versionOf(&f)) || !isTimeOf(*expiresOf(&f)) || len(*sigsOf(&f)) > 12 {
		return false
	}
	for _, s := range *sigsOf(&f) {
		if len(s.Sig) > 500 {
			return false
		}
	}
	switch f.Kind {
	case impl.TfRoot:
		return len(f.Root.Roles) == 3 && slowRoleOk(f.Root.Roles[0]) && slowRoleOk(f.Root.Roles[1]) && slowRoleOk(f.Root.Roles[2])
	case impl.TfStamp:
		return isVersionOf(f.Stamp.ListVersion)
	}
	wrong := func(e impl.TrustEntry) bool { return !isTimeOf(e.Until) }
	return len(f.List.Entries) <= 20 && !slices.ContainsFunc(f.List.Entries, wrong)
}

// filesIn are the files that a state has, each of its Kind.
func filesIn(s impl.TrustState) (impl.TrustFile, impl.TrustFile, impl.TrustFile) {
	return impl.TrustFile{Kind: impl.TfRoot, Root: s.Root}, impl.TrustFile{Kind: impl.TfStamp, Stamp: s.Stamp}, impl.TrustFile{Kind: impl.TfList, List: s.List}
}

func slowStateOk(s impl.TrustState) bool {
	root, stamp, list := filesIn(s)
	return slowFileOk(root) && (s.Stamp.Version == 0 || slowFileOk(stamp)) && (s.List.Version == 0 || slowFileOk(list))
}

// slowSigners are the keys of a role of which some signature is good.
func slowSigners(f impl.TrustFile, r impl.Role) int64 {
	good := map[impl.Pub]bool{}
	for _, s := range *sigsOf(&f) {
		for _, p := range r.Keys {
			if impl.KeyId(p) == s.Key && impl.VerifyAny(p, slowFileBody(f), s.Sig) {
				good[p] = true
			}
		}
	}
	return int64(len(good))
}

// trustFault is a code, and whether it is to be told if none is ahead of it.
type trustFault struct {
	code int64
	is   func() bool
}

// slowFaults are those of a right file and a right state, in the order in which the document tells them.
func slowFaults(s impl.TrustState, f impl.TrustFile, now int64) []trustFault {
	few := func(role impl.Role) bool { return slowSigners(f, role) < role.Need }
	ownLate := trustFault{4, func() bool { return *expiresOf(&f) <= now }}
	rootLate := trustFault{4, func() bool { return s.Root.Expires <= now }}
	switch f.Kind {
	case impl.TfRoot:
		return []trustFault{
			{2, func() bool { return f.Root.Version-s.Root.Version != 1 }},
			{3, func() bool { return few(s.Root.Roles[0]) }},
			{3, func() bool { return few(f.Root.Roles[0]) }},
			ownLate,
		}
	case impl.TfStamp:
		same := impl.TrustFile{Kind: impl.TfStamp, Stamp: s.Stamp}
		return []trustFault{
			rootLate,
			{3, func() bool { return few(s.Root.Roles[1]) }},
			{2, func() bool { return s.Stamp.Version > f.Stamp.Version }},
			{2, func() bool { return s.Stamp.ListVersion > f.Stamp.ListVersion }},
			{2, func() bool {
				return s.Stamp.Version == f.Stamp.Version && !bytes.Equal(slowFileBody(f), slowFileBody(same))
			}},
			ownLate,
		}
	}
	return []trustFault{
		rootLate,
		{4, func() bool { return s.Stamp.Version > 0 && s.Stamp.Expires <= now }},
		{5, func() bool { return s.Stamp.Version == 0 }},
		{5, func() bool { return s.Stamp.ListVersion != f.List.Version }},
		{5, func() bool { return s.Stamp.ListHash != slowDigest(slowFileBody(f)) }},
		{3, func() bool { return few(s.Root.Roles[2]) }},
		{2, func() bool { return s.List.Version > f.List.Version }},
		ownLate,
	}
}

func slowTaken(s impl.TrustState, f impl.TrustFile) impl.TrustState {
	s, f = copyState(s), copyFile(f)
	switch f.Kind {
	case impl.TfRoot:
		was, is := s.Root.Roles, f.Root.Roles
		if toldOf(was[1]) != toldOf(is[1]) {
			return impl.TrustState{Root: f.Root}
		}
		if toldOf(was[2]) != toldOf(is[2]) {
			s.List = impl.ListFile{}
		}
		s.Root = f.Root
	case impl.TfStamp:
		s.Stamp = f.Stamp
	default:
		s.List = f.List
	}
	return s
}

func slowTrustStep(s impl.TrustState, f impl.TrustFile, now int64) (impl.TrustState, int64) {
	if !slowFileOk(f) || !slowStateOk(s) {
		return s, 1
	}
	for _, x := range slowFaults(s, f, now) {
		if x.is() {
			return s, x.code
		}
	}
	return slowTaken(s, f), 0
}

func slowTrusted(s impl.TrustState, key uint64, at int64, now int64) bool {
	root, stamp, list := filesIn(s)
	for _, f := range []impl.TrustFile{root, stamp, list} {
		if !slowFileOk(f) || now >= *expiresOf(&f) {
			return false
		}
	}
	if s.Stamp.ListVersion != s.List.Version || s.Stamp.ListHash != slowDigest(slowFileBody(list)) {
		return false
	}
	last := int64(-1)
	for _, e := range s.List.Entries {
		if e.Key == key {
			last = max(last, e.Until)
		}
	}
	return last >= 0 && last >= at
}

// stepping is a step that is not yet taken: its file is signed at last.
type stepping struct {
	state impl.TrustState
	file  impl.TrustFile
	by    []impl.Secret
	now   int64
	// untied leaves the stamp as it is, where otherwise it names the list of the step.
	untied bool
	// turned are done behind the signing.
	turned func(f *impl.TrustFile)
}

func (w stepping) with(changes ...func(w *stepping)) stepping {
	w.state, w.file, w.by = copyState(w.state), copyFile(w.file), slices.Clone(w.by)
	for _, change := range changes {
		change(&w)
	}
	return w
}

func (w stepping) args() (impl.TrustState, impl.TrustFile, int64) {
	s, f := copyState(w.state), w.file
	if f.Kind == impl.TfList && !w.untied {
		s.Stamp.ListVersion, s.Stamp.ListHash = f.List.Version, slowDigest(slowFileBody(f))
	}
	f = signedFile(f, w.by...)
	if w.turned != nil {
		w.turned(&f)
	}
	return s, f, w.now
}

// plainStepping is one that is taken: by a client that has all, of a newer file of this Kind.
func plainStepping(kind int64) stepping {
	w := stepping{state: plainState(), now: 100}
	switch kind {
	case impl.TfRoot:
		w.file, w.by = plainRootFile(), keepers(1, 3)
	case impl.TfStamp:
		w.file, w.by = plainStampFile(), keepers(4, 5)
	case impl.TfList:
		w.file, w.by = plainListFile(), keepers(8, 9)
	}
	*versionOf(&w.file)++
	return w
}

func wantStep(t *testing.T, why string, w stepping, want int64) impl.TrustState {
	t.Helper()
	s, f, now := w.args()
	got, code := impl.TrustStep(s, f, now)
	if code != want {
		t.Error(why, "got", code, "want", want, "of", f.Kind)
	}
	is, slowCode := slowTrustStep(s, f, now)
	if code != slowCode || toldOf(got) != toldOf(is) {
		t.Error(why, "got", got, code, "want", is, slowCode)
	}
	if want != 0 && toldOf(got) != toldOf(s) {
		t.Error(why, "what is refused changed", got)
	}
	return got
}

func wantTrusted(t *testing.T, why string, s impl.TrustState, key uint64, at int64, now int64, want bool) {
	t.Helper()
	if got := impl.Trusted(s, key, at, now); got != want || got != slowTrusted(s, key, at, now) {
		t.Error(why, "got", got, "want", want)
	}
}

// anyRole is of few keys, so that many roles are alike.
func anyRole(r *rand.Rand, first int) impl.Role {
	keys := []int{first, first + 1, first + 2}[:1+r.Intn(3)]
	if r.Intn(8) == 0 {
		slices.Reverse(keys)
	}
	return roleOf(1+r.Int63n(int64(len(keys))), keys...)
}

// anyNextRoles keep most roles as they were.
func anyNextRoles(r *rand.Rand, was []impl.Role) []impl.Role {
	out := slices.Clone(was)
	for i := range out {
		if r.Intn(4) == 0 {
			out[i] = anyRole(r, 3*i+1)
		}
	}
	return out
}

func anySigners(r *rand.Rand, kind int64) []impl.Secret {
	var out []impl.Secret
	for n := 3*int(kind) - 2; n <= 3*int(kind); n++ {
		if r.Intn(5) > 0 {
			out = append(out, keeper(n))
		}
	}
	if r.Intn(6) == 0 {
		out = append(out, keeper(1+r.Intn(12)))
	}
	return out
}

func anyEntries(r *rand.Rand) []impl.TrustEntry {
	var out []impl.TrustEntry
	for range r.Intn(4) {
		out = append(out, impl.TrustEntry{Key: r.Uint64() % 4, Until: r.Int63n(5)})
	}
	return out
}

// anyFileFor is a file that the client may take, or not.
func anyFileFor(r *rand.Rand, s impl.TrustState, newest impl.ListFile, now int64) impl.TrustFile {
	f := impl.TrustFile{Kind: 1 + r.Int63n(3)}
	expires := now + oneOf[int64](r, 0, 1, 2, 20, 20, 20, 20, 20)
	switch f.Kind {
	case impl.TfRoot:
		f.Root = impl.RootFile{Version: s.Root.Version + oneOf[int64](r, 1, 1, 1, 1, 1, 0, 2), Expires: expires + oneOf[int64](r, 0, 20, 20), Roles: anyNextRoles(r, s.Root.Roles)}
	case impl.TfStamp:
		body := slowFileBody(impl.TrustFile{Kind: impl.TfList, List: newest})
		f.Stamp = impl.StampFile{Version: s.Stamp.Version + oneOf[int64](r, 1, 1, 1, 0, -1), Expires: expires, ListVersion: newest.Version, ListHash: slowDigest(body)}
		if r.Intn(6) == 0 {
			f.Stamp = s.Stamp
			f.Stamp.Sigs = nil
		}
		if r.Intn(8) == 0 {
			f.Stamp.ListVersion = s.Stamp.ListVersion + oneOf[int64](r, -1, 0, 1)
		}
	case impl.TfList:
		f.List = newest
		f.List.Sigs = nil
		if r.Intn(5) == 0 {
			f.List = oneOf(r, s.List, impl.ListFile{Version: newest.Version, Expires: expires})
			f.List.Sigs = nil
		}
	}
	if r.Intn(30) == 0 {
		*expiresOf(&f) = -1
	}
	return signedFile(f, anySigners(r, f.Kind)...)
}
