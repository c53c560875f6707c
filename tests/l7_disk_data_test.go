package tests

import (
	"fmt"
	"math"
	"regexp"
	"slices"
	"strconv"
	"strings"
	"testing"

	"loop.example/quarterdeck/impl"
)

// namedFs is a file system with a name for what a test reports.
type namedFs struct {
	name string
	fs   impl.Fs
}

// fsEdit changes a file system that is to be changed.
type fsEdit func(f *impl.Fs)

// entriesOf reads entries: a name, a colon and a number.
func entriesOf(names ...string) []impl.Entry {
	list := []impl.Entry{}
	for _, s := range names {
		k := strings.LastIndex(s, ":")
		id, err := strconv.Atoi(s[k+1:])
		if err != nil {
			panic(err)
		}
		list = append(list, impl.Entry{Name: s[:k], Id: id})
	}
	return list
}

// folder is a folder with entries.
func folder(mode, owner, group int, names ...string) impl.Inode {
	return impl.Inode{Kind: 2, Mode: mode, Owner: owner, Group: group, Names: entriesOf(names...)}
}

// file is a file with a text.
func file(mode, owner, group int, text string) impl.Inode {
	return impl.Inode{Kind: 1, Mode: mode, Owner: owner, Group: group, Text: text}
}

// opened is a node that is open so many times.
func opened(i impl.Inode, many int) impl.Inode {
	i.Opens = many
	return i
}

// marked is a file with a Mark.
func marked(i impl.Inode) impl.Inode {
	i.Mark = true
	return i
}

// diskOf has some nodes, with as many links as entries lead to them, and free ones behind.
func diskOf(nodes ...impl.Inode) impl.Fs {
	f := impl.Fs{Nodes: append(nodes, make([]impl.Inode, 10-len(nodes))...)}
	for _, i := range f.Nodes {
		for _, e := range i.Names {
			f.Nodes[e.Id].Links++
		}
	}
	return f
}

// withEdits is a copy of a file system, changed.
func withEdits(f impl.Fs, edits ...fsEdit) impl.Fs {
	f = cloneFs(f)
	for _, edit := range edits {
		edit(&f)
	}
	return f
}

// setNode puts a node to a number, with all links told.
func setNode(id int, i impl.Inode, links int) fsEdit {
	i.Links = links
	return func(f *impl.Fs) { f.Nodes[id] = i }
}

// noNode makes a node free.
func noNode(id int) fsEdit {
	return setNode(id, impl.Inode{}, 0)
}

// setNames gives a folder other entries.
func setNames(id int, names ...string) fsEdit {
	return func(f *impl.Fs) { f.Nodes[id].Names = entriesOf(names...) }
}

// setLinks, setOpens, setText, setMode, setOwner, setGroup and setMark change one thing that is told of a node.
func setLinks(id int, links int) fsEdit {
	return func(f *impl.Fs) { f.Nodes[id].Links = links }
}

func setOpens(id int, many int) fsEdit {
	return func(f *impl.Fs) { f.Nodes[id].Opens = many }
}

func setText(id int, text string) fsEdit {
	return func(f *impl.Fs) { f.Nodes[id].Text = text }
}

func setMode(id int, mode int) fsEdit {
	return func(f *impl.Fs) { f.Nodes[id].Mode = mode }
}

func setOwner(id int, owner int) fsEdit {
	return func(f *impl.Fs) { f.Nodes[id].Owner = owner }
}

func setGroup(id int, group int) fsEdit {
	return func(f *impl.Fs) { f.Nodes[id].Group = group }
}

func setMark(id int, mark bool) fsEdit {
	return func(f *impl.Fs) { f.Nodes[id].Mark = mark }
}

// homeFs has folders below folders, files with one name, with two in one folder and in two, and one that is open and has none; the nodes 8 and 9 are free.
func homeFs() impl.Fs {
	return diskOf(
		folder(0o777, 0, 0, "a:1", "b:2", "bc:2", "cde:3"),
		folder(0o770, 2, 5, "e:4", "f:5"),
		file(0o644, 2, 2, "hello"),
		opened(folder(0o777, 3, 3, "f:5", "x:6"), 1),
		folder(0o700, 2, 2),
		marked(file(0o755, 4, 5, "")),
		folder(0o755, 3, 3),
		opened(file(0o600, 2, 2, "left"), 2))
}

// rightsFs has folders of the owner 2 and the group 5 with unlike rights, each with the file 7, and a folder 9 which everybody may change.
func rightsFs(modes ...int) impl.Fs {
	nodes := []impl.Inode{folder(0o777, 0, 0, "a:1", "b:2", "c:3", "d:4", "e:5", "w:9")}
	for k := range 5 {
		nodes = append(nodes, folder(modes[k], 2, 5, "f:7"))
	}
	return diskOf(append(nodes, impl.Inode{}, file(0o777, 2, 5, "text"), impl.Inode{}, folder(0o777, 4, 4, "g:7"))...)
}

// fullFs has a folder 1 with 6 entries, one of which is a folder, a folder 2 with 5, and all of the first folder's taken; the nodes 6 to 9 are free.
func fullFs() impl.Fs {
	return diskOf(
		folder(0o755, 0, 0, "a:1", "b:2", "c:3", "d:3", "e:3", "f:3"),
		folder(0o777, 2, 2, "a:3", "b:3", "c:3", "d:3", "e:3", "f:4"),
		folder(0o777, 2, 2, "a:3", "b:3", "c:3", "d:3", "e:5"),
		file(0o644, 2, 2, "much"),
		folder(0o777, 2, 2),
		file(0o644, 2, 2, ""))
}

// takenFs has no free node: the last one is just open.
func takenFs() impl.Fs {
	return diskOf(
		folder(0o777, 0, 0, "a:1", "b:2", "c:3", "d:4"),
		folder(0o777, 2, 2, "a:5", "b:6", "c:7"),
		file(0o644, 2, 2, "two"),
		file(0o644, 3, 3, "three"),
		folder(0o777, 2, 2, "z:8"),
		file(0o644, 2, 2, "five"),
		folder(0o777, 2, 2),
		opened(file(0o644, 2, 2, "seven"), 3),
		file(0o644, 2, 2, "eight"),
		opened(file(0o644, 2, 2, "nine"), 1))
}

// deepFs is nine folders, each below the one before.
func deepFs() impl.Fs {
	nodes := []impl.Inode{}
	for id := range 9 {
		nodes = append(nodes, folder(0o777, 2, 2, fmt.Sprintf("d:%d", id+1)))
	}
	return diskOf(append(nodes, folder(0o777, 2, 2))...)
}

// linksFs is nine folders, each below the one before, and a file that has all entries but those of folders: 46 links.
func linksFs() impl.Fs {
	nodes := []impl.Inode{}
	for id := range 8 {
		nodes = append(nodes, folder(0o777, 2, 2, fmt.Sprintf("a:%d", id+1), "b:9", "c:9", "d:9", "e:9", "f:9"))
	}
	return diskOf(append(nodes, folder(0o777, 2, 2, "a:9", "b:9", "c:9", "d:9", "e:9", "f:9"), file(0o666, 2, 2, "all"))...)
}

// openFs has files that are open and have no name, with all numbers of those who have them open, and an open first folder.
func openFs() impl.Fs {
	return diskOf(
		opened(folder(0o777, 0, 0, "a:6", "b:7"), 1),
		opened(file(0o600, 2, 2, ""), 1),
		impl.Inode{},
		opened(marked(file(0, 3, 4, "two")), 2),
		opened(file(0o777, 9, 9, strings.Repeat("t", 40)), 99),
		opened(file(0o640, 0, 0, "\x00\xff\x00"), 98),
		opened(folder(0o777, 2, 2), 98),
		opened(folder(0o777, 2, 2, "c:8"), 99),
		opened(file(0o644, 2, 2, "shut"), 99))
}

// textsFs has files of texts of all lengths.
func textsFs() impl.Fs {
	return diskOf(
		folder(0o777, 0, 0, "a:1", "b:2", "c:3", "d:4", "e:5", "zzz:9"),
		file(0o666, 2, 2, ""),
		file(0o666, 2, 2, "x"),
		file(0o666, 2, 2, strings.Repeat("abc", 13)),
		file(0o666, 2, 2, strings.Repeat("wxyz", 10)),
		file(0o666, 2, 2, "\x00\xff\x00é\n\x80"),
		impl.Inode{}, impl.Inode{}, impl.Inode{},
		file(0o666, 2, 2, "0123456789"))
}

// mixedFs has folders whose numbers are greater than those of what is below them.
func mixedFs() impl.Fs {
	return diskOf(
		folder(0o755, 0, 0, "p:9", "q:7"),
		folder(0o777, 2, 2),
		impl.Inode{},
		folder(0o777, 2, 2, "v:1", "w:4"),
		file(0o644, 2, 2, "low"),
		folder(0o777, 2, 2, "t:3"),
		impl.Inode{},
		folder(0o777, 2, 2, "b:4"),
		impl.Inode{},
		folder(0o777, 2, 2, "s:5"))
}

// newFs is FsNew, written out.
func newFs(owner, mode int) impl.Fs {
	return diskOf(folder(mode, owner, owner))
}

// writtenFss are valid ones that are written out.
func writtenFss() []namedFs {
	return []namedFs{
		{"a new one", newFs(0, 0o755)},
		{"a new one of the user 3, of all rights", newFs(3, 0o777)},
		{"a new one of the user 9, without rights", newFs(9, 0)},
		{"home", homeFs()},
		{"rights of the owner", rightsFs(0o100, 0o200, 0o300, 0o077, 0o400)},
		{"rights of the group", rightsFs(0o010, 0o020, 0o030, 0o707, 0o040)},
		{"rights of others", rightsFs(0o001, 0o002, 0o003, 0o770, 0o004)},
		{"rights of some", rightsFs(0o666, 0o000, 0o111, 0o222, 0o333)},
		{"full folders", fullFs()},
		{"no free node", takenFs()},
		{"deep folders", deepFs()},
		{"46 links", linksFs()},
		{"45 links", withEdits(linksFs(), setNames(8, "a:9", "b:9", "c:9", "e:9", "f:9"), setLinks(9, 45))},
		{"open files", openFs()},
		{"texts", textsFs()},
		{"mixed numbers", mixedFs()},
	}
}

// validFss has the written ones, and some to which walks lead.
func validFss() []namedFs {
	list := writtenFss()
	for seed := range 8 {
		list = append(list, walkedFss(int64(seed))...)
	}
	return list
}

// allFss has valid ones and others.
func allFss() []namedFs {
	return append(validFss(), invalidFss()...)
}

// noNames are texts that are no names: of no letters or too many, and with other signs than small letters, those next to them among these.
func noNames() []string {
	return []string{"", "abcd", "aaaaaaaa", "A", "aB", "Zab", "1", "a1", "1ab", " ", "a ", " a", "a b", ".", "..", "...", "a.", ".a", "/", "a/b", "-", "_", "`", "{", "@", "[", "a`", "{b",
		"\x00", "a\x00", "\n", "ab\n", "\xff", "a\xff", "é", "aé", "ß", "\u0430", strings.Repeat("a", 1000)}
}

// noIds are numbers that no node has, among them those that one would have if they were cut to fewer bits.
func noIds() []int {
	return []int{math.MinInt, math.MinInt + 1, math.MinInt32, -10, -1, 10, 11, 256, 1 << 32, 1<<32 + 1, math.MaxInt - 1, math.MaxInt}
}

// notThere are the numbers that no node has, and those of free ones.
func notThere(f impl.Fs) []int {
	list := noIds()
	for id, i := range f.Nodes {
		if i.Kind == 0 {
			list = append(list, id)
		}
	}
	return list
}

// noKinds are numbers that are no kind of what can be made.
func noKinds() []int {
	return []int{math.MinInt, math.MinInt + 1, -2, -1, 0, 3, 4, 255, 1<<32 + 1, 1<<32 + 2, math.MaxInt - 1, math.MaxInt}
}

// noPlacesOfBytes are numbers that are neither a place of a text nor a number of bytes.
func noPlacesOfBytes() []int {
	return []int{math.MinInt, math.MinInt + 1, math.MinInt + 40, math.MinInt32, -41, -40, -2, -1}
}

var nameForm = regexp.MustCompile(`\A[a-z]{1,3}\z`)

// greatPlaces are places of bytes behind all texts, and numbers of more bytes than any text has.
func greatPlaces() []int {
	return []int{41, 42, 99, 100, 1000, 1 << 32, 1<<32 + 1, math.MaxInt - 41, math.MaxInt - 40, math.MaxInt - 1, math.MaxInt}
}

// isName tells, without the program, whether a text is a name.
func isName(s string) bool {
	return nameForm.MatchString(s)
}

// rangeIsValid tells, without the program, whether a number is in a range.
func rangeIsValid(n, least, greatest int) bool {
	return n >= least && n <= greatest
}

// inodeIsValid tells, without the program, whether a node is valid, apart from all others.
func inodeIsValid(i impl.Inode) bool {
	if !rangeIsValid(i.Mode, 0, 511) || !rangeIsValid(i.Owner, 0, 9) || !rangeIsValid(i.Group, 0, 9) || !rangeIsValid(i.Opens, 0, 99) {
		return false
	}
	names := []string{}
	for _, e := range i.Names {
		if !isName(e.Name) {
			return false
		}
		names = append(names, e.Name)
	}
	sorted := slices.Compact(slices.Sorted(slices.Values(names)))
	switch i.Kind {
	case 0:
		return sameInode(i, impl.Inode{})
	case 1:
		return len(i.Text) <= 40 && len(names) == 0
	case 2:
		return len(i.Text) == 0 && !i.Mark && len(names) <= 6 && slices.Equal(names, sorted)
	}
	return false
}

// entriesTo counts, without the program, the entries that lead to each node, and tells which nodes are below the first folder; it fails if one leads to none.
func entriesTo(f impl.Fs) (links [10]int, below [10]bool, ok bool) {
	for _, i := range f.Nodes {
		for _, e := range i.Names {
			if !rangeIsValid(e.Id, 0, 9) || f.Nodes[e.Id].Kind == 0 {
				return links, below, false
			}
			links[e.Id]++
		}
	}
	list := []int{0}
	for len(list) > 0 {
		id := list[0]
		list = list[1:]
		for _, e := range f.Nodes[id].Names {
			if !below[e.Id] {
				below[e.Id] = true
				list = append(list, e.Id)
			}
		}
	}
	return links, below, true
}

// fsIsValid tells, without the program, whether a file system is valid.
func fsIsValid(f impl.Fs) bool {
	if len(f.Nodes) != 10 || f.Nodes[0].Kind != 2 {
		return false
	}
	links, below, ok := entriesTo(f)
	for id, i := range f.Nodes {
		if !ok || !inodeIsValid(i) || i.Links != links[id] {
			return false
		}
		if i.Kind == 1 && i.Links == 0 && i.Opens == 0 {
			return false
		}
		if i.Kind == 2 && id > 0 && !(i.Links == 1 && below[id]) || id == 0 && i.Links != 0 {
			return false
		}
	}
	return true
}

func cloneFs(f impl.Fs) impl.Fs {
	n := impl.Fs{Nodes: slices.Clone(f.Nodes)}
	for id := range n.Nodes {
		n.Nodes[id].Names = slices.Clone(n.Nodes[id].Names)
	}
	return n
}

func sameInode(a, b impl.Inode) bool {
	numbers := a.Kind == b.Kind && a.Mode == b.Mode && a.Owner == b.Owner && a.Group == b.Group && a.Links == b.Links && a.Opens == b.Opens
	return numbers && a.Mark == b.Mark && a.Text == b.Text && slices.Equal(a.Names, b.Names)
}

func sameFs(a, b impl.Fs) bool {
	return slices.EqualFunc(a.Nodes, b.Nodes, sameInode)
}

// fsText tells a file system for what a test reports, a line for each node that is not free.
func fsText(f impl.Fs) string {
	s := fmt.Sprintf("%d nodes", len(f.Nodes))
	for id, i := range f.Nodes {
		if !sameInode(i, impl.Inode{}) {
			s += fmt.Sprintf("\n%d: kind %d, mode %03o, of %d and %d, %d links, open %d, mark %v, %q, %v", id, i.Kind, i.Mode, i.Owner, i.Group, i.Links, i.Opens, i.Mark, i.Text, i.Names)
		}
	}
	return s
}

func wantFs(t *testing.T, what string, got, want impl.Fs) {
	t.Helper()
	if !sameFs(got, want) {
		t.Fatalf("%s: got %s\nwant %s", what, fsText(got), fsText(want))
	}
}

// wantFsCode checks the file system and the code that a call returns.
func wantFsCode(t *testing.T, what string, got impl.Fs, code int, want impl.Fs, need int) {
	t.Helper()
	if code != need {
		t.Fatalf("%s: code %d, want %d", what, code, need)
	}
	wantFs(t, what, got, want)
}

// wantValidFs checks that a file system is valid, by the program and without it.
func wantValidFs(t *testing.T, what string, f impl.Fs) {
	t.Helper()
	if !impl.FsOk(f) || !fsIsValid(f) {
		t.Fatalf("%s: not valid: %s", what, fsText(f))
	}
}
