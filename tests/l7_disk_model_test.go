package tests

import (
	"fmt"
	"math/rand"
	"slices"
	"strings"
	"testing"

	"loop.example/quarterdeck/impl"
)

// fsArgs are arguments of calls of chapter 7 besides a file system; a call leaves out those that it does not ask for.
type fsArgs struct {
	cred  impl.Cred
	id    int
	other int
	name  string
	as    string
	kind  int
	mode  int
	owner int
	at    int
	many  int
	text  string
	flag  bool
}

// fsAnswer is what a call of chapter 7 returns: the file system, a number, or -1, and bytes, as far as it returns them, and a code.
type fsAnswer struct {
	fs   impl.Fs
	n    int
	text string
	code int
}

// fsFunction is a function of chapter 7 that has a file system and the number of a node as arguments, and asks for others.
// What it has to return is told by a model of lists, which knows of no links, for arguments that are valid.
type fsFunction struct {
	name  string
	asks  string
	call  func(f impl.Fs, a fsArgs) fsAnswer
	model func(f impl.Fs, a fsArgs) fsAnswer
}

// fsAnswered is the answer of a call that returns no number.
func fsAnswered(f impl.Fs, code int) fsAnswer {
	return fsAnswer{fs: f, n: -1, code: code}
}

// fsFunctions are those of chapter 7 but FsNew and FsOk.
func fsFunctions() []fsFunction {
	return []fsFunction{
		{"FsLook", "cred name", func(f impl.Fs, a fsArgs) fsAnswer {
			n, code := impl.FsLook(f, a.cred, a.id, a.name)
			return fsAnswer{n: n, code: code}
		}, modelLook},
		{"FsMake", "cred name kind mode", func(f impl.Fs, a fsArgs) fsAnswer {
			g, n, code := impl.FsMake(f, a.cred, a.id, a.name, a.kind, a.mode)
			return fsAnswer{fs: g, n: n, code: code}
		}, modelMake},
		{"FsLink", "cred other name", func(f impl.Fs, a fsArgs) fsAnswer {
			return fsAnswered(impl.FsLink(f, a.cred, a.other, a.id, a.name))
		}, modelLink},
		{"FsDrop", "cred name", func(f impl.Fs, a fsArgs) fsAnswer {
			return fsAnswered(impl.FsDrop(f, a.cred, a.id, a.name))
		}, modelDrop},
		{"FsMove", "cred name other as", func(f impl.Fs, a fsArgs) fsAnswer {
			return fsAnswered(impl.FsMove(f, a.cred, a.id, a.name, a.other, a.as))
		}, modelMove},
		{"FsRead", "at many", func(f impl.Fs, a fsArgs) fsAnswer {
			s, code := impl.FsRead(f, a.id, a.at, a.many)
			return fsAnswer{n: -1, text: s, code: code}
		}, modelRead},
		{"FsWrite", "at", func(f impl.Fs, a fsArgs) fsAnswer {
			return fsAnswered(impl.FsWrite(f, a.id, a.at, a.text))
		}, modelWrite},
		{"FsMode", "cred mode", func(f impl.Fs, a fsArgs) fsAnswer {
			return fsAnswered(impl.FsMode(f, a.cred, a.id, a.mode))
		}, modelMode},
		{"FsOwn", "cred owner", func(f impl.Fs, a fsArgs) fsAnswer {
			return fsAnswered(impl.FsOwn(f, a.cred, a.id, a.owner))
		}, modelOwn},
		{"FsMark", "cred flag", func(f impl.Fs, a fsArgs) fsAnswer {
			return fsAnswered(impl.FsMark(f, a.cred, a.id, a.flag))
		}, modelMark},
		{"FsOpen", "flag", func(f impl.Fs, a fsArgs) fsAnswer {
			return fsAnswered(impl.FsOpen(f, a.id, a.flag))
		}, modelOpen},
	}
}

// asksFor reports whether a function asks for an argument.
func (x fsFunction) asksFor(what string) bool {
	return slices.Contains(strings.Fields(x.asks), what)
}

// isThere tells whether a number is that of a node.
func isThere(f impl.Fs, id int) bool {
	return id >= 0 && id < len(f.Nodes) && f.Nodes[id].Kind != 0
}

// valid tells whether all arguments for which a function asks are valid.
func (x fsFunction) valid(f impl.Fs, a fsArgs) bool {
	for what, ok := range map[string]bool{
		"cred": credIsValid(a.cred), "other": isThere(f, a.other), "name": isName(a.name), "as": isName(a.as), "kind": a.kind == 1 || a.kind == 2,
		"mode": rangeIsValid(a.mode, 0, 511), "owner": rangeIsValid(a.owner, 0, 9), "at": a.at >= 0, "many": a.many >= 0,
	} {
		if x.asksFor(what) && !ok {
			return false
		}
	}
	return fsIsValid(f) && isThere(f, a.id)
}

// want is what a function has to return, told without the program.
func (x fsFunction) want(f impl.Fs, a fsArgs) fsAnswer {
	if !x.valid(f, a) {
		return fsAnswered(impl.Fs{}, 1)
	}
	return x.model(cloneFs(f), a)
}

// idOf is the number to which a name leads in a node, or -1.
func idOf(f impl.Fs, id int, name string) int {
	for _, e := range f.Nodes[id].Names {
		if e.Name == name {
			return e.Id
		}
	}
	return -1
}

// mayAt tells whether someone may do all of what with a node.
func mayAt(f impl.Fs, c impl.Cred, id int, what int) bool {
	i := f.Nodes[id]
	return mayDo(c, i.Owner, i.Group, i.Mode, what)
}

// addEntry and cutEntry change the entries of a folder, and the links of the node.
func addEntry(f impl.Fs, folder int, name string, id int) {
	list := append(f.Nodes[folder].Names, impl.Entry{Name: name, Id: id})
	slices.SortFunc(list, func(x, y impl.Entry) int { return strings.Compare(x.Name, y.Name) })
	f.Nodes[folder].Names = list
	f.Nodes[id].Links++
}

func cutEntry(f impl.Fs, folder int, name string) {
	f.Nodes[idOf(f, folder, name)].Links--
	f.Nodes[folder].Names = slices.DeleteFunc(f.Nodes[folder].Names, func(e impl.Entry) bool { return e.Name == name })
}

// sweep makes nodes that nothing keeps free.
func sweep(f impl.Fs) {
	for id := 1; id < 10; id++ {
		if f.Nodes[id].Links == 0 && f.Nodes[id].Opens == 0 {
			f.Nodes[id] = impl.Inode{}
		}
	}
}

// leadsTo tells whether a way down, of any number of names, leads from a node to another one.
func leadsTo(f impl.Fs, from, to int) bool {
	if from == to {
		return true
	}
	return slices.ContainsFunc(f.Nodes[from].Names, func(e impl.Entry) bool { return leadsTo(f, e.Id, to) })
}

// codeOf is that of the first one of some codes that counts, or 0.
func codeOf(counts ...func() int) int {
	for _, of := range counts {
		if code := of(); code != 0 {
			return code
		}
	}
	return 0
}

// codeIf is a code, if something is so.
func codeIf(code int, so func() bool) func() int {
	return func() int {
		if so() {
			return code
		}
		return 0
	}
}

// noFolder and noWay are the codes of a node that is no folder, and of one in which someone may not do what.
func noFolder(f impl.Fs, id int) func() int {
	return codeIf(4, func() bool { return f.Nodes[id].Kind != 2 })
}

func noWay(f impl.Fs, c impl.Cred, id int, what int) func() int {
	return codeIf(5, func() bool { return !mayAt(f, c, id, what) })
}

func modelLook(f impl.Fs, a fsArgs) fsAnswer {
	code := codeOf(noFolder(f, a.id), noWay(f, a.cred, a.id, 1), codeIf(2, func() bool { return idOf(f, a.id, a.name) < 0 }))
	if code != 0 {
		return fsAnswer{n: -1, code: code}
	}
	return fsAnswer{n: idOf(f, a.id, a.name)}
}

func modelMake(f impl.Fs, a fsArgs) fsAnswer {
	least := slices.IndexFunc(f.Nodes, func(i impl.Inode) bool { return i.Kind == 0 })
	code := codeOf(noFolder(f, a.id), noWay(f, a.cred, a.id, 3), codeIf(3, func() bool { return idOf(f, a.id, a.name) >= 0 }),
		codeIf(7, func() bool { return least < 0 || len(f.Nodes[a.id].Names) == 6 }))
	if code != 0 {
		return fsAnswered(f, code)
	}
	made := impl.Inode{Kind: a.kind, Mode: a.mode, Owner: a.cred.User, Group: a.cred.User}
	for _, group := range slices.Backward(a.cred.Groups) {
		made.Group = group
	}
	f.Nodes[least] = made
	addEntry(f, a.id, a.name, least)
	return fsAnswer{fs: f, n: least}
}

func modelLink(f impl.Fs, a fsArgs) fsAnswer {
	code := codeOf(codeIf(4, func() bool { return f.Nodes[a.other].Kind != 1 }), noFolder(f, a.id), noWay(f, a.cred, a.id, 3),
		codeIf(3, func() bool { return idOf(f, a.id, a.name) >= 0 }), codeIf(7, func() bool { return len(f.Nodes[a.id].Names) == 6 }))
	if code == 0 {
		addEntry(f, a.id, a.name, a.other)
	}
	return fsAnswered(f, code)
}

func modelDrop(f impl.Fs, a fsArgs) fsAnswer {
	code := codeOf(noFolder(f, a.id), noWay(f, a.cred, a.id, 3), codeIf(2, func() bool { return idOf(f, a.id, a.name) < 0 }), codeIf(6, func() bool {
		i := f.Nodes[idOf(f, a.id, a.name)]
		return i.Kind == 2 && len(i.Names)+i.Opens > 0
	}))
	if code == 0 {
		cutEntry(f, a.id, a.name)
		sweep(f)
	}
	return fsAnswered(f, code)
}

func modelMove(f impl.Fs, a fsArgs) fsAnswer {
	moved := idOf(f, a.id, a.name)
	code := codeOf(noFolder(f, a.id), noFolder(f, a.other), noWay(f, a.cred, a.id, 3), noWay(f, a.cred, a.other, 3),
		codeIf(2, func() bool { return moved < 0 }), codeIf(3, func() bool { return idOf(f, a.other, a.as) >= 0 }), codeIf(6, func() bool { return leadsTo(f, moved, a.other) }),
		codeIf(7, func() bool { return a.id != a.other && len(f.Nodes[a.other].Names) == 6 }))
	if code == 0 {
		cutEntry(f, a.id, a.name)
		addEntry(f, a.other, a.as, moved)
	}
	return fsAnswered(f, code)
}

func modelRead(f impl.Fs, a fsArgs) fsAnswer {
	if f.Nodes[a.id].Kind != 1 {
		return fsAnswer{n: -1, code: 4}
	}
	bytes := []byte{}
	for k, b := range []byte(f.Nodes[a.id].Text) {
		if k >= a.at && k-a.at < a.many {
			bytes = append(bytes, b)
		}
	}
	return fsAnswer{n: -1, text: string(bytes)}
}

func modelWrite(f impl.Fs, a fsArgs) fsAnswer {
	if f.Nodes[a.id].Kind != 1 {
		return fsAnswered(f, 4)
	}
	if a.at > 40 || a.at+len(a.text) > 40 {
		return fsAnswered(f, 7)
	}
	if len(a.text) > 0 {
		bytes := [40]byte{}
		copy(bytes[:], f.Nodes[a.id].Text)
		end := max(len(f.Nodes[a.id].Text), a.at+copy(bytes[a.at:], a.text))
		f.Nodes[a.id].Text = string(bytes[:end])
	}
	return fsAnswered(f, 0)
}

// noOwner is the code of a node of which someone is not the owner, nor the user 0.
func noOwner(f impl.Fs, a fsArgs) func() int {
	return codeIf(5, func() bool { return a.cred.User != f.Nodes[a.id].Owner && a.cred.User != 0 })
}

func modelMode(f impl.Fs, a fsArgs) fsAnswer {
	code := codeOf(noOwner(f, a))
	if code == 0 {
		f.Nodes[a.id].Mode = a.mode
	}
	return fsAnswered(f, code)
}

func modelOwn(f impl.Fs, a fsArgs) fsAnswer {
	if a.cred.User != 0 {
		return fsAnswered(f, 5)
	}
	f.Nodes[a.id].Owner, f.Nodes[a.id].Mark = a.owner, false
	return fsAnswered(f, 0)
}

func modelMark(f impl.Fs, a fsArgs) fsAnswer {
	code := codeOf(codeIf(4, func() bool { return f.Nodes[a.id].Kind != 1 }), noOwner(f, a))
	if code == 0 {
		f.Nodes[a.id].Mark = a.flag
	}
	return fsAnswered(f, code)
}

func modelOpen(f impl.Fs, a fsArgs) fsAnswer {
	n := f.Nodes[a.id].Opens - 1
	if a.flag {
		n += 2
	}
	if n < 0 || n > 99 {
		return fsAnswered(f, 6)
	}
	f.Nodes[a.id].Opens = n
	sweep(f)
	return fsAnswered(f, 0)
}

// pick is one element of a list.
func pick[T any](r *rand.Rand, list []T) T {
	return list[r.Intn(len(list))]
}

// randomId is mostly the number of a node of some kind, if there are such.
func randomId(r *rand.Rand, f impl.Fs, kind int) int {
	list := []int{}
	for id, i := range f.Nodes {
		if i.Kind == kind {
			list = append(list, id)
		}
	}
	if len(list) == 0 || r.Intn(8) == 0 {
		return r.Intn(10)
	}
	return pick(r, list)
}

// randomName is mostly a name that a node has, or one of a few others.
func randomName(r *rand.Rand, f impl.Fs, id int, has bool) string {
	if id < len(f.Nodes) && len(f.Nodes[id].Names) > 0 && has == (r.Intn(6) > 0) {
		return pick(r, f.Nodes[id].Names).Name
	}
	return pick(r, []string{"a", "b", "c", "d", "e", "f", "g", "aa", "ab", "zz", "abc", "zzz"})
}

// randomArgs are arguments that are mostly valid; one of them is another one at times.
func randomArgs(r *rand.Rand, f impl.Fs, x fsFunction) fsArgs {
	a := fsArgs{cred: pick(r, fewCreds()).cred, kind: 1 + r.Intn(2), mode: r.Intn(512), owner: r.Intn(10), at: r.Intn(44), many: r.Intn(50), flag: r.Intn(5) > 1}
	if r.Intn(2) == 0 {
		a.cred = someone(0, 0)
	}
	kind := 2
	if x.name == "FsRead" || x.name == "FsWrite" || x.name == "FsMark" {
		kind = 1
	}
	a.id, a.other = randomId(r, f, kind), randomId(r, f, 2)
	if x.name == "FsLink" {
		a.other = randomId(r, f, 1)
	}
	if x.name == "FsOpen" {
		a.id = r.Intn(10)
	}
	if r.Intn(3) > 0 {
		a.mode |= 0o333
	}
	a.name = randomName(r, f, a.id, x.name != "FsMake" && x.name != "FsLink")
	a.as = randomName(r, f, min(a.other, 9), false)
	a.text = strings.Repeat(pick(r, []string{"x", "\x00", "yz", "\xff\x01é"}), r.Intn(12))
	if r.Intn(12) == 0 {
		spoilArgs(r, &a)
	}
	return a
}

// spoilArgs makes one argument one that may not be valid.
func spoilArgs(r *rand.Rand, a *fsArgs) {
	switch r.Intn(9) {
	case 0:
		a.cred = pick(r, invalidCreds()).cred
	case 1:
		a.id = pick(r, noIds())
	case 2:
		a.other = pick(r, noIds())
	case 3:
		a.name = pick(r, noNames())
	case 4:
		a.as = pick(r, noNames())
	case 5:
		a.kind = pick(r, noKinds())
	case 6:
		a.mode = pick(r, noModes())
	case 7:
		a.at, a.many = pick(r, append(noPlacesOfBytes(), greatPlaces()...)), pick(r, greatPlaces())
	default:
		a.owner, a.many = pick(r, noUsers()), pick(r, append(noPlacesOfBytes(), greatPlaces()...))
	}
}

// wantAnswer checks an answer.
func wantAnswer(t *testing.T, what string, got, want fsAnswer) {
	t.Helper()
	if got.n != want.n || got.text != want.text || got.code != want.code {
		t.Fatalf("%s: told %d, %q and the code %d, want %d, %q and %d", what, got.n, got.text, got.code, want.n, want.text, want.code)
	}
	wantFs(t, what, got.fs, want.fs)
}

// fsWalk is a file system to which calls lead, as the model tells.
type fsWalk struct {
	r    *rand.Rand
	fs   impl.Fs
	did  fsFunction
	with fsArgs
	want fsAnswer
}

func newFsWalk(seed int64) *fsWalk {
	r := rand.New(rand.NewSource(seed))
	return &fsWalk{r: r, fs: pick(r, writtenFss()).fs}
}

// step chooses a call, FsMake more often than others, and goes to what it has to return, unless that is nothing; it returns where it was.
func (w *fsWalk) step() impl.Fs {
	was := w.fs
	list := fsFunctions()
	w.did = pick(w.r, append(list, list[1], list[1]))
	w.with = randomArgs(w.r, was, w.did)
	w.want = w.did.want(was, w.with)
	if len(w.want.fs.Nodes) > 0 {
		w.fs = w.want.fs
	}
	return was
}

// walkedFss are some of those to which a walk leads.
func walkedFss(seed int64) []namedFs {
	w, list := newFsWalk(seed), []namedFs{}
	for n := range 300 {
		w.step()
		if n == 20 || n == 80 || n == 180 || n == 299 {
			list = append(list, namedFs{fmt.Sprintf("walk %d, step %d", seed, n), w.fs})
		}
	}
	return list
}

// Promises 53 to 70 along walks: each call returns what the model does, and leads to a valid file system; in the end walks have met each code of each call.
func TestFsWalks(t *testing.T) {
	seen := map[string]int{}
	for seed := range 60 {
		w := newFsWalk(int64(seed))
		for n := range 300 {
			was := w.step()
			what := fmt.Sprintf("walk %d, step %d, %s with %+v of %s", seed, n, w.did.name, w.with, fsText(was))
			wantAnswer(t, what, w.did.call(was, w.with), w.want)
			wantValidFs(t, what, w.fs)
			wantAllLinks(t, what, w.fs)
			seen[fmt.Sprintf("%s %d", w.did.name, w.want.code)]++
		}
	}
	for name, codes := range map[string][]int{
		"FsLook": {0, 1, 2, 4, 5}, "FsMake": {0, 1, 3, 4, 5, 7}, "FsLink": {0, 1, 3, 4, 5, 7}, "FsDrop": {0, 1, 2, 4, 5, 6}, "FsMove": {0, 1, 2, 3, 4, 5, 6, 7},
		"FsRead": {0, 1, 4}, "FsWrite": {0, 1, 4, 7}, "FsMode": {0, 1, 5}, "FsOwn": {0, 1, 5}, "FsMark": {0, 1, 4, 5}, "FsOpen": {0, 1, 6},
	} {
		for _, code := range codes {
			if seen[fmt.Sprintf("%s %d", name, code)] < 10 {
				t.Errorf("the walks met the code %d of %s %d times", code, name, seen[fmt.Sprintf("%s %d", name, code)])
			}
		}
	}
}

// Each call of each file system that is written out, with many arguments.
func TestFsCallsAsTheModel(t *testing.T) {
	r := rand.New(rand.NewSource(7))
	for _, x := range writtenFss() {
		for _, f := range fsFunctions() {
			for range 300 {
				a := randomArgs(r, x.fs, f)
				what := fmt.Sprintf("%s: %s with %+v", x.name, f.name, a)
				wantAnswer(t, what, f.call(x.fs, a), f.want(x.fs, a))
			}
		}
	}
}

// someArgs are valid for homeFs and others, so that a call is done, or fails for what is there.
func someArgs() fsArgs {
	return fsArgs{cred: someone(0, 0), id: 0, other: 0, name: "b", as: "new", kind: 1, mode: 0o644, owner: 2, at: 1, many: 2, text: "x", flag: true}
}
