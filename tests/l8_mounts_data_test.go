package tests

import (
	"fmt"
	"math"
	"regexp"
	"slices"
	"strings"
	"testing"

	"loop.example/quarterdeck/impl"
)

// namedVfs is two file systems with a name for what a test reports.
type namedVfs struct {
	name string
	vfs  impl.Vfs
}

// vfsEdit changes file systems that are to be changed.
type vfsEdit func(v *impl.Vfs)

// at is the place of a number in a file system.
func at(fs, id int) impl.Place {
	return impl.Place{Fs: fs, Id: id}
}

// apart is two file systems, the second one mounted nowhere.
func apart(first, second impl.Fs) impl.Vfs {
	return impl.Vfs{Fss: []impl.Fs{cloneFs(first), cloneFs(second)}, Mount: -1}
}

// mounted is two file systems, the second one mounted on a folder, which is open once more.
func mounted(first impl.Fs, id int, second impl.Fs) impl.Vfs {
	v := apart(first, second)
	v.Fss[0].Nodes[id].Opens++
	v.Mount = id
	return v
}

// withVfsEdits is a copy of file systems, changed.
func withVfsEdits(v impl.Vfs, edits ...vfsEdit) impl.Vfs {
	v = cloneVfs(v)
	for _, edit := range edits {
		edit(&v)
	}
	return v
}

// inFs changes one of the file systems, and setMount the mount alone.
func inFs(fs int, edits ...fsEdit) vfsEdit {
	return func(v *impl.Vfs) { v.Fss[fs] = withEdits(v.Fss[fs], edits...) }
}

func setMount(id int) vfsEdit {
	return func(v *impl.Vfs) { v.Mount = id }
}

// townFs has the folder 3, m, to mount on, with folders and a file below it; the folder 8, s, which only the user 3 may go through; and files 2 and 6.
func townFs() impl.Fs {
	return diskOf(
		folder(0o755, 0, 0, "a:1", "f:2", "m:3", "s:8"),
		folder(0o777, 2, 2, "b:4", "g:2"),
		file(0o644, 2, 2, "two"),
		folder(0o755, 3, 3, "h:6", "in:5"),
		folder(0o755, 2, 2),
		folder(0o777, 2, 2, "d:7"),
		file(0o600, 2, 2, "six"),
		folder(0o777, 2, 2),
		folder(0o700, 3, 3, "t:9"),
		folder(0o777, 2, 2))
}

// hillFs has folders below folders, a file 2, and the folder 4, u, which nobody may go through.
func hillFs() impl.Fs {
	return diskOf(
		folder(0o755, 4, 4, "c:1", "k:2", "u:4"),
		folder(0o777, 2, 2, "d:3"),
		file(0o644, 2, 2, "hill"),
		folder(0o755, 2, 2, "a:6"),
		folder(0o666, 2, 2, "v:5"),
		folder(0o777, 2, 2),
		folder(0o777, 2, 2))
}

// backFs has folders whose numbers are greater than those of what is above them, or less: b is 9, b/c is 1, and b/c/abc is 5.
func backFs() impl.Fs {
	return diskOf(
		folder(0o777, 2, 2, "b:9", "z:2"),
		folder(0o777, 2, 2, "abc:5", "x:4"),
		folder(0o777, 2, 2),
		impl.Inode{},
		file(0o777, 2, 2, ""),
		folder(0o777, 2, 2),
		impl.Inode{}, impl.Inode{}, impl.Inode{},
		folder(0o777, 2, 2, "c:1"))
}

// shutFs is a file system that nobody has open; files without a name are gone.
func shutFs(f impl.Fs) impl.Fs {
	f = cloneFs(f)
	for id := range f.Nodes {
		f.Nodes[id].Opens = 0
	}
	sweep(f)
	return f
}

// writtenVfss are valid ones that are written out.
func writtenVfss() []namedVfs {
	list := []namedVfs{
		{"new ones", apart(newFs(0, 0o755), newFs(0, 0o755))},
		{"new ones without rights", apart(newFs(0, 0), newFs(0, 0))},
		{"town and hill apart", apart(townFs(), hillFs())},
		{"hill on m", mounted(townFs(), 3, hillFs())},
		{"hill on m, open", mounted(townFs(), 3, withEdits(hillFs(), setOpens(0, 1)))},
		{"hill on m, a file and a folder open", mounted(townFs(), 3, withEdits(hillFs(), setOpens(2, 99), setOpens(3, 1)))},
		{"hill on m, where one may not go through it", mounted(withEdits(townFs(), setMode(3, 0)), 3, hillFs())},
		{"hill on m, where one may not go through its first folder", mounted(townFs(), 3, withEdits(hillFs(), setMode(0, 0o640)))},
		{"hill on m, which is open 99 times", mounted(withEdits(townFs(), setOpens(3, 98)), 3, hillFs())},
		{"hill on a/b", mounted(townFs(), 4, hillFs())},
		{"hill on a", mounted(townFs(), 1, hillFs())},
		{"hill on m/in", mounted(townFs(), 5, hillFs())},
		{"hill on m/in/d", mounted(townFs(), 7, hillFs())},
		{"hill on s, which nobody may go through", mounted(withEdits(townFs(), setMode(8, 0o666)), 8, hillFs())},
		{"town on the same folder of a town", mounted(townFs(), 3, townFs())},
		{"back apart", apart(backFs(), backFs())},
		{"back on b/c", mounted(backFs(), 1, backFs())},
		{"back on b", mounted(backFs(), 9, backFs())},
		{"deep on the deepest", mounted(deepFs(), 9, deepFs())},
		{"deep on the second deepest", mounted(deepFs(), 8, deepFs())},
		{"deep on the first", mounted(deepFs(), 1, deepFs())},
		{"deep on the sixth", mounted(deepFs(), 6, deepFs())},
		{"deep apart", apart(deepFs(), deepFs())},
		{"home on a folder that is open", mounted(homeFs(), 3, homeFs())},
		{"open files on a folder", mounted(takenFs(), 6, openFs())},
		{"open files, and a new one", apart(openFs(), newFs(0, 0o755))},
		{"links and full folders", apart(linksFs(), fullFs())},
		{"texts on a full folder's folder", mounted(fullFs(), 4, textsFs())},
	}
	rights := []impl.Fs{rightsFs(0o100, 0o200, 0o300, 0o077, 0o400), rightsFs(0o010, 0o020, 0o030, 0o707, 0o040), rightsFs(0o001, 0o666, 0, 0o770, 0o111)}
	for k, f := range rights {
		for id := 1; id <= 5; id++ {
			list = append(list, namedVfs{fmt.Sprintf("rights %d on the folder %d", k, id), mounted(f, id, rights[(k+1)%3])})
		}
	}
	return list
}

// validVfss has the written ones, and some to which walks lead.
func validVfss() []namedVfs {
	list := writtenVfss()
	for seed := range 6 {
		list = append(list, walkedVfss(int64(seed))...)
	}
	return list
}

// allVfss has valid ones and others.
func allVfss() []namedVfs {
	return append(validVfss(), invalidVfss()...)
}

// invalidVfss has file systems that are not valid, for just one cause.
func invalidVfss() []namedVfs {
	town, hill := townFs(), hillFs()
	list := []namedVfs{
		{"nothing", impl.Vfs{}},
		{"nothing, mounted nowhere", impl.Vfs{Mount: -1}},
		{"no file systems", impl.Vfs{Fss: []impl.Fs{}, Mount: -1}},
		{"one file system", impl.Vfs{Fss: []impl.Fs{town}, Mount: -1}},
		{"one file system, with a mount", impl.Vfs{Fss: []impl.Fs{withEdits(town, setOpens(3, 1))}, Mount: 3}},
		{"three file systems", impl.Vfs{Fss: []impl.Fs{town, hill, hillFs()}, Mount: -1}},
		{"three file systems, with a mount", impl.Vfs{Fss: []impl.Fs{withEdits(town, setOpens(3, 1)), hill, hillFs()}, Mount: 3}},
		{"the mount 0", withVfsEdits(apart(town, hill), setMount(0))},
		{"the mount 0, open", withVfsEdits(apart(withEdits(town, setOpens(0, 1)), hill), setMount(0))},
		{"a mount on a file", withVfsEdits(apart(town, hill), setMount(2))},
		{"a mount on an open file", mounted(town, 2, hill)},
		{"a mount on a file that is open and has no name", mounted(withEdits(hill, setNode(9, opened(file(0, 2, 2, ""), 1), 0)), 9, hill)},
		{"a mount on a folder that is not open", withVfsEdits(apart(town, hill), setMount(3))},
		{"a mount on a folder that is not open, others being open", withVfsEdits(apart(withEdits(town, setOpens(1, 1), setOpens(5, 99)), hill), setMount(3))},
		{"a mount on a folder that just the second one has open", withVfsEdits(apart(withEdits(town, setOpens(1, 1)), withEdits(hill, setOpens(3, 1))), setMount(3))},
		{"a mount on a free node", withVfsEdits(apart(hill, town), setMount(8))},
		{"a mount on a folder of the second one alone", withVfsEdits(apart(hill, withEdits(town, setOpens(8, 1))), setMount(8))},
		{"no mount, and the second one's first folder open", apart(town, withEdits(hill, setOpens(0, 1)))},
		{"no mount, and a file of the second one open", apart(town, withEdits(hill, setOpens(2, 1)))},
		{"no mount, and a folder of the second one open 99 times", apart(town, withEdits(hill, setOpens(6, 99)))},
		{"no mount, and the last node of the second one open", apart(town, withEdits(townFs(), setOpens(9, 1)))},
		{"no mount, and a file of the second one that is open and has no name", apart(town, withEdits(hill, setNode(9, opened(file(0, 2, 2, ""), 1), 0)))},
		{"no mount, and open files", apart(newFs(0, 0o755), openFs())},
	}
	for _, id := range noIds() {
		if id != -1 {
			list = append(list, namedVfs{fmt.Sprintf("the mount %d", id), withVfsEdits(apart(withEdits(town, setOpens(3, 1)), hill), setMount(id))})
		}
	}
	list = append(list, namedVfs{"the mount -2", withVfsEdits(mounted(town, 3, hill), setMount(-2))})
	for _, x := range invalidFss() {
		list = append(list,
			namedVfs{"the first one has " + x.name, impl.Vfs{Fss: []impl.Fs{cloneFs(x.fs), hill}, Mount: -1}},
			namedVfs{"the second one has " + x.name, mounted(town, 3, x.fs)})
	}
	return list
}

// sevenSteps are paths of one step more than a path has.
func sevenSteps() []string {
	return []string{"a/b/c/d/e/f/g", "/a/b/c/d/e/f/g", "../../../../../../..", "/../../../../../../..", "/a/b/../../a/b/..", strings.Repeat("a/", 1000) + "a"}
}

// noPaths are texts that are no path: with an empty step, a step that is neither a name nor .., or too many steps.
func noPaths() []string {
	list := append(sevenSteps(),
		"//", "///", "//a", "a//b", "/a//b", "a/", "/a/", "a/b/", "/a/b/", "../", "/../", "..//..", "/..//", "a//", "a/b/c/d/e/f/", "/a/b/c/d/e/f/",
		".", "/.", "./a", "a/.", "a/./b", "...", "/...", "a/...", "..../a", "..a", "a..", ".a/b", "a/.b", "a./b", ".. ", " ..", "../.. ", " ", " /", "/ ", "/ a", "a /b",
		`\`, `a\b`, "a:b", "a\x00", "\x00/a", "/\x00", "a/\n", "\n", "../abcd", "abcd/..", "aaaa/aaaa", "a/B", "a/é/b", "\xff/a", "~", "*", "a/*")
	for _, name := range noNames() {
		// Among these are such that are paths: the empty text, .. and names with / between.
		if name != "" && name != ".." && name != "/" && name != "a/b" {
			list = append(list, name, "/"+name, "a/"+name, name+"/b", "../"+name+"/..", "/a/"+name+"/b")
		}
	}
	return list
}

// oddPaths are paths that the chapter names, and such at its limits.
func oddPaths() []string {
	return []string{"", "/", "..", "/..", "a", "/a", "a/b", "/a/b", "a/..", "/a/..", "../a", "/../a", "../..", "/../..", "abc", "/abc", "zzz/aaa", "a/b/c/d/e/f", "/a/b/c/d/e/f",
		"abc/abc/abc/abc/abc/abc", "/zzz/zzz/zzz/zzz/zzz/zzz", "../../../../../..", "/../../../../../..", "a/../b/../c/..", "m", "/m", "m/c", "/m/c/d", "m/in", "/m/..", "c/..", "f/..", "f/a", "s/t", "s/..",
		"u/v", "u/..", "/m/u/v", "/d/d/d/d/d/d", "d/d/d/d/d/d", "in/../..", "d/../.."}
}

// noPlaces are places that file systems have not.
func noPlaces(v impl.Vfs) []impl.Place {
	list := []impl.Place{}
	for _, n := range append(noIds(), 2, 3) {
		list = append(list, at(n, 0), at(n, 1), at(n, n))
	}
	for fs, f := range v.Fss {
		for _, id := range notThere(f) {
			list = append(list, at(fs, id))
		}
	}
	return list
}

// placesOf are all places that file systems have.
func placesOf(v impl.Vfs) []impl.Place {
	list := []impl.Place{}
	for fs, f := range v.Fss {
		for id, i := range f.Nodes {
			if i.Kind != 0 {
				list = append(list, at(fs, id))
			}
		}
	}
	return list
}

// foldersOf are the places of all folders.
func foldersOf(v impl.Vfs) []impl.Place {
	return slices.DeleteFunc(placesOf(v), func(p impl.Place) bool { return inodeAt(v, p).Kind != 2 })
}

// inodeAt is the node of a place.
func inodeAt(v impl.Vfs, p impl.Place) impl.Inode {
	return v.Fss[p.Fs].Nodes[p.Id]
}

// greatNumbers are numbers near the least and the greatest int.
func greatNumbers() []int {
	return []int{math.MinInt, math.MinInt + 1, math.MinInt + 2, math.MinInt32, math.MaxInt32, math.MaxInt - 2, math.MaxInt - 1, math.MaxInt}
}

// pathForm is a path, and stepForm a step of one.
var (
	pathForm = regexp.MustCompile(`\A/?(?:(?:[a-z]{1,3}|\.\.)(?:/(?:[a-z]{1,3}|\.\.)){0,5})?\z`)
	stepForm = regexp.MustCompile(`[a-z]+|\.\.`)
)

// vfsIsValid tells, without the program, whether file systems and mount are valid.
func vfsIsValid(v impl.Vfs) bool {
	if len(v.Fss) != 2 || !fsIsValid(v.Fss[0]) || !fsIsValid(v.Fss[1]) {
		return false
	}
	if v.Mount == -1 {
		return !slices.ContainsFunc(v.Fss[1].Nodes, func(i impl.Inode) bool { return i.Opens > 0 })
	}
	return rangeIsValid(v.Mount, 1, 9) && v.Fss[0].Nodes[v.Mount].Kind == 2 && v.Fss[0].Nodes[v.Mount].Opens > 0
}

func cloneVfs(v impl.Vfs) impl.Vfs {
	n := impl.Vfs{Fss: slices.Clone(v.Fss), Mount: v.Mount}
	for k, f := range n.Fss {
		n.Fss[k] = cloneFs(f)
	}
	return n
}

func sameVfs(a, b impl.Vfs) bool {
	return a.Mount == b.Mount && slices.EqualFunc(a.Fss, b.Fss, sameFs)
}

// vfsText tells file systems for what a test reports.
func vfsText(v impl.Vfs) string {
	s := fmt.Sprintf("mount %d", v.Mount)
	for k, f := range v.Fss {
		s += fmt.Sprintf("\nfile system %d: %s", k, fsText(f))
	}
	return s
}

func wantVfs(t *testing.T, what string, got, want impl.Vfs) {
	t.Helper()
	if !sameVfs(got, want) {
		t.Fatalf("%s: got %s\nwant %s", what, vfsText(got), vfsText(want))
	}
}

// wantVfsCode checks the file systems and the code that a call returns.
func wantVfsCode(t *testing.T, what string, got impl.Vfs, code int, want impl.Vfs, need int) {
	t.Helper()
	if code != need {
		t.Fatalf("%s: code %d, want %d", what, code, need)
	}
	wantVfs(t, what, got, want)
}

// wantValidVfs checks that file systems are valid, by the program and without it.
func wantValidVfs(t *testing.T, what string, v impl.Vfs) {
	t.Helper()
	if !impl.VfsOk(v) || !vfsIsValid(v) {
		t.Fatalf("%s: not valid: %s", what, vfsText(v))
	}
}

// wantPlace checks the place and the code that a call returns.
func wantPlace(t *testing.T, what string, got impl.Place, code int, want impl.Place, need int) {
	t.Helper()
	if got != want || code != need {
		t.Fatalf("%s: %v and the code %d, want %v and %d", what, got, code, want, need)
	}
}
