package tests

import (
	"fmt"
	"strings"
	"testing"

	"loop.example/quarterdeck/impl"
)

func TestFsConstants(t *testing.T) {
	got := []int{impl.NodeMax, impl.TextMax, impl.NameMax, impl.EntryMax, impl.KindFile, impl.KindFolder}
	codes := []int{impl.ErrFine, impl.ErrBad, impl.ErrNone, impl.ErrThere, impl.ErrKind, impl.ErrDeny, impl.ErrBusy, impl.ErrMany}
	if fmt.Sprint(got) != "[10 40 3 6 1 2]" || fmt.Sprint(codes) != "[0 1 2 3 4 5 6 7]" {
		t.Errorf("the constants are %v and %v", got, codes)
	}
}

// fsCase is a call of a file system, written out: what it returns is the file system with some edits, a number, bytes, and a code.
type fsCase struct {
	name  string
	fs    impl.Fs
	call  string
	args  fsArgs
	n     int
	text  string
	code  int
	edits []fsEdit
}

// checkFsCases checks calls; those that fail leave all as it was, and tell neither a number nor bytes.
func checkFsCases(t *testing.T, list []fsCase) {
	t.Helper()
	for _, x := range list {
		wantValidFs(t, x.name, x.fs)
		want := fsAnswer{n: x.n, text: x.text, code: x.code}
		if x.call != "FsMake" && x.call != "FsLook" || x.code != 0 {
			want.n = -1
		}
		if x.call != "FsLook" && x.call != "FsRead" {
			want.fs = withEdits(x.fs, x.edits...)
			wantValidFs(t, x.name+", as it should be then", want.fs)
		}
		found := false
		for _, f := range fsFunctions() {
			if f.name == x.call {
				found = true
				wantAnswer(t, x.call+": "+x.name, f.call(x.fs, x.args), want)
			}
		}
		if !found {
			t.Fatalf("no function %s", x.call)
		}
	}
}

// The user 0 and some others; user4 is in the group 5.
var user0, user2, user3, user4 = someone(0, 0), someone(2, 2), someone(3, 3), someone(4, 4, 5)

func TestFsNewCases(t *testing.T) {
	f, ok := impl.FsNew(3, 0o750)
	if !ok {
		t.Fatalf("FsNew fails")
	}
	wantFs(t, "FsNew", f, impl.Fs{Nodes: append([]impl.Inode{{Kind: 2, Mode: 0o750, Owner: 3, Group: 3}}, make([]impl.Inode, 9)...)})
}

func TestFsLookCases(t *testing.T) {
	home := homeFs()
	in := func(c impl.Cred, id int, name string) fsArgs { return fsArgs{cred: c, id: id, name: name} }
	none := withEdits(home, setMode(0, 0))
	checkFsCases(t, []fsCase{
		{name: "a folder", fs: home, call: "FsLook", args: in(user3, 0, "a"), n: 1},
		{name: "a file", fs: home, call: "FsLook", args: in(user3, 0, "b"), n: 2},
		{name: "a longer name", fs: home, call: "FsLook", args: in(user3, 0, "bc"), n: 2},
		{name: "the longest name", fs: home, call: "FsLook", args: in(user3, 0, "cde"), n: 3},
		{name: "below a folder", fs: home, call: "FsLook", args: in(user2, 1, "f"), n: 5},
		{name: "the same file in another folder", fs: home, call: "FsLook", args: in(user2, 3, "f"), n: 5},
		{name: "the last number", fs: deepFs(), call: "FsLook", args: in(user2, 8, "d"), n: 9},
		{name: "the owner goes by the first digit", fs: home, call: "FsLook", args: in(user2, 1, "e"), n: 4},
		{name: "who is in the group goes by the second digit", fs: home, call: "FsLook", args: in(user4, 1, "e"), n: 4},
		{name: "others by the third", fs: home, call: "FsLook", args: in(user3, 1, "e"), code: 5},
		{name: "others do not see that there is no such name", fs: home, call: "FsLook", args: in(user3, 1, "z"), code: 5},
		{name: "who is just really the owner", fs: home, call: "FsLook", args: in(someone(3, 2), 1, "e"), code: 5},
		{name: "the user 0 goes anywhere", fs: home, call: "FsLook", args: in(user0, 1, "e"), n: 4},
		{name: "the user 0 goes where just another digit says so", fs: rightsFs(0o100, 0o010, 0o001, 0o666, 0), call: "FsLook", args: in(user0, 3, "f"), n: 7},
		{name: "the user 0 where nobody goes", fs: rightsFs(0o100, 0o010, 0o001, 0o666, 0), call: "FsLook", args: in(user0, 4, "f"), code: 5},
		{name: "the owner 0 where nobody goes", fs: none, call: "FsLook", args: in(user0, 0, "a"), code: 5},
		{name: "to go through is enough", fs: rightsFs(0o100, 0, 0, 0, 0), call: "FsLook", args: in(user2, 1, "f"), n: 7},
		{name: "to read and write is not", fs: rightsFs(0o600, 0, 0, 0, 0), call: "FsLook", args: in(user2, 1, "f"), code: 5},
		{name: "no such name", fs: home, call: "FsLook", args: in(user2, 0, "c"), code: 2},
		{name: "the beginning of a name", fs: home, call: "FsLook", args: in(user2, 0, "cd"), code: 2},
		{name: "a name of another folder", fs: home, call: "FsLook", args: in(user2, 0, "e"), code: 2},
		{name: "a name ahead of all", fs: home, call: "FsLook", args: in(user2, 1, "a"), code: 2},
		{name: "a name behind all", fs: home, call: "FsLook", args: in(user2, 1, "zzz"), code: 2},
		{name: "an empty folder", fs: home, call: "FsLook", args: in(user2, 4, "a"), code: 2},
		{name: "a file", fs: home, call: "FsLook", args: in(user2, 2, "a"), code: 4},
		{name: "a file that one may not run", fs: home, call: "FsLook", args: in(user3, 7, "a"), code: 4},
	})
}

func TestFsMakeCases(t *testing.T) {
	home, deny := homeFs(), homeFs()
	in := func(c impl.Cred, id int, name string, kind, mode int) fsArgs {
		return fsArgs{cred: c, id: id, name: name, kind: kind, mode: mode}
	}
	deny.Nodes[0].Mode = 0o775
	made := func(links int, i impl.Inode) []fsEdit {
		return []fsEdit{setNames(4, "z:8"), setNode(8, i, links)}
	}
	one := withEdits(fullFs(), setNames(2, "a:3", "b:3", "c:3", "d:3", "e:5", "m:6"), setNode(6, file(0o644, 0, 0, ""), 1))
	checkFsCases(t, []fsCase{
		{name: "a file, by who has no groups", fs: home, call: "FsMake", args: in(user2, 4, "z", 1, 0o640), n: 8, edits: made(1, file(0o640, 2, 2, ""))},
		{name: "a folder, by who has no groups", fs: home, call: "FsMake", args: in(user2, 4, "z", 2, 0o705), n: 8, edits: made(1, folder(0o705, 2, 2))},
		{name: "by who has one group", fs: home, call: "FsMake", args: in(someone(2, 2, 7), 4, "z", 1, 0), n: 8, edits: made(1, file(0, 2, 7, ""))},
		{name: "by who has two groups", fs: home, call: "FsMake", args: in(someone(2, 2, 1, 7), 4, "z", 1, 511), n: 8, edits: made(1, file(511, 2, 1, ""))},
		{name: "by who has three groups, the first one 0", fs: home, call: "FsMake", args: in(someone(2, 2, 0, 2, 9), 4, "z", 2, 1), n: 8, edits: made(1, folder(1, 2, 0))},
		{name: "by who is really another one", fs: home, call: "FsMake", args: in(someone(2, 6), 4, "z", 1, 0o644), n: 8, edits: made(1, file(0o644, 2, 2, ""))},
		{name: "by the user 0", fs: home, call: "FsMake", args: in(someone(0, 5, 3), 4, "z", 1, 0o644), n: 8, edits: made(1, file(0o644, 0, 3, ""))},
		{name: "by the user 0, without groups", fs: home, call: "FsMake", args: in(user0, 4, "z", 2, 0o644), n: 8, edits: made(1, folder(0o644, 0, 0))},
		{name: "ahead of all names", fs: home, call: "FsMake", args: in(user2, 1, "a", 1, 0), n: 8, edits: []fsEdit{setNames(1, "a:8", "e:4", "f:5"), setNode(8, file(0, 2, 2, ""), 1)}},
		{name: "between two names", fs: home, call: "FsMake", args: in(user2, 1, "ezz", 1, 0), n: 8, edits: []fsEdit{setNames(1, "e:4", "ezz:8", "f:5"), setNode(8, file(0, 2, 2, ""), 1)}},
		{name: "behind all names", fs: home, call: "FsMake", args: in(user2, 1, "fa", 2, 0), n: 8, edits: []fsEdit{setNames(1, "e:4", "f:5", "fa:8"), setNode(8, folder(0, 2, 2), 1)}},
		{name: "the least free number", fs: mixedFs(), call: "FsMake", args: in(user2, 1, "abc", 1, 0), n: 2, edits: []fsEdit{setNames(1, "abc:2"), setNode(2, file(0, 2, 2, ""), 1)}},
		{name: "the last free node", fs: withEdits(takenFs(), noNode(9)), call: "FsMake", args: in(user2, 6, "m", 1, 0), n: 9, edits: []fsEdit{setNames(6, "m:9"), setNode(9, file(0, 2, 2, ""), 1)}},
		{name: "a folder with one entry less than all", fs: fullFs(), call: "FsMake", args: in(user0, 2, "m", 1, 0o644), n: 6, edits: []fsEdit{setNames(2, "a:3", "b:3", "c:3", "d:3", "e:5", "m:6"), setNode(6, file(0o644, 0, 0, ""), 1)}},
		{name: "the folder that is full then", fs: one, call: "FsMake", args: in(user0, 2, "n", 1, 0o644), code: 7},
		{name: "a full folder", fs: fullFs(), call: "FsMake", args: in(user2, 1, "g", 1, 0), code: 7},
		{name: "a full folder that has the name", fs: fullFs(), call: "FsMake", args: in(user2, 1, "f", 1, 0), code: 3},
		{name: "no free node", fs: takenFs(), call: "FsMake", args: in(user2, 6, "a", 1, 0), code: 7},
		{name: "no free node for a folder", fs: takenFs(), call: "FsMake", args: in(user0, 0, "e", 2, 0), code: 7},
		{name: "no free node, in a folder that has the name", fs: takenFs(), call: "FsMake", args: in(user2, 1, "a", 1, 0), code: 3},
		{name: "the name of a file", fs: home, call: "FsMake", args: in(user2, 0, "b", 1, 0), code: 3},
		{name: "the name of a folder", fs: home, call: "FsMake", args: in(user2, 0, "a", 2, 0), code: 3},
		{name: "in a file", fs: home, call: "FsMake", args: in(user2, 2, "z", 1, 0), code: 4},
		{name: "in a file that one may not write", fs: home, call: "FsMake", args: in(user3, 7, "z", 1, 0), code: 4},
		{name: "the group writes by the second digit", fs: deny, call: "FsMake", args: in(someone(4, 4, 0), 0, "z", 1, 0), n: 8, edits: []fsEdit{setNames(0, "a:1", "b:2", "bc:2", "cde:3", "z:8"), setNode(8, file(0, 4, 0, ""), 1)}},
		{name: "others may not write", fs: deny, call: "FsMake", args: in(user2, 0, "z", 1, 0), code: 5},
		{name: "others do not see that there is the name", fs: deny, call: "FsMake", args: in(user2, 0, "b", 1, 0), code: 5},
		{name: "others do not see that all nodes are taken", fs: withEdits(takenFs(), setMode(6, 0o755)), call: "FsMake", args: in(user3, 6, "b", 1, 0), code: 5},
		{name: "others do not see that the folder is full", fs: fullFs(), call: "FsMake", args: in(user2, 0, "z", 1, 0), code: 5},
	})
}

func TestFsLinkCases(t *testing.T) {
	home := homeFs()
	in := func(c impl.Cred, file, id int, name string) fsArgs {
		return fsArgs{cred: c, other: file, id: id, name: name}
	}
	less := withEdits(linksFs(), setNames(8, "a:9", "b:9", "c:9", "e:9", "f:9"), setLinks(9, 45))
	checkFsCases(t, []fsCase{
		{name: "one more name in a folder that has one", fs: home, call: "FsLink", args: in(user2, 2, 0, "c"), edits: []fsEdit{setNames(0, "a:1", "b:2", "bc:2", "c:2", "cde:3"), setLinks(2, 3)}},
		{name: "a name in another folder", fs: home, call: "FsLink", args: in(user2, 2, 4, "b"), edits: []fsEdit{setNames(4, "b:2"), setLinks(2, 3)}},
		{name: "of a file that one may not read", fs: home, call: "FsLink", args: in(user3, 7, 6, "abc"), edits: []fsEdit{setNames(6, "abc:7"), setLinks(7, 1)}},
		{name: "of a file that is open and has no name", fs: home, call: "FsLink", args: in(user2, 7, 4, "a"), edits: []fsEdit{setNames(4, "a:7"), setLinks(7, 1)}},
		{name: "of a file with Mark", fs: home, call: "FsLink", args: in(user3, 5, 6, "a"), edits: []fsEdit{setNames(6, "a:5"), setLinks(5, 3)}},
		{name: "up to 46 links", fs: less, call: "FsLink", args: in(user2, 9, 8, "d"), edits: []fsEdit{setNames(8, "a:9", "b:9", "c:9", "d:9", "e:9", "f:9"), setLinks(9, 46)}},
		{name: "without a free node", fs: takenFs(), call: "FsLink", args: in(user2, 9, 6, "a"), edits: []fsEdit{setNames(6, "a:9"), setLinks(9, 1)}},
		{name: "a folder with one entry less than all", fs: fullFs(), call: "FsLink", args: in(user3, 3, 2, "dd"), edits: []fsEdit{setNames(2, "a:3", "b:3", "c:3", "d:3", "dd:3", "e:5"), setLinks(3, 14)}},
		{name: "a full folder", fs: fullFs(), call: "FsLink", args: in(user3, 3, 1, "ff"), code: 7},
		{name: "46 links, and all folders full", fs: linksFs(), call: "FsLink", args: in(user2, 9, 8, "g"), code: 7},
		{name: "a full folder that has the name", fs: fullFs(), call: "FsLink", args: in(user3, 3, 1, "f"), code: 3},
		{name: "the name of the file itself", fs: home, call: "FsLink", args: in(user2, 2, 0, "b"), code: 3},
		{name: "the name of a folder", fs: home, call: "FsLink", args: in(user2, 2, 0, "a"), code: 3},
		{name: "a folder", fs: home, call: "FsLink", args: in(user0, 4, 0, "z"), code: 4},
		{name: "the first folder", fs: home, call: "FsLink", args: in(user0, 0, 1, "z"), code: 4},
		{name: "a folder in itself", fs: home, call: "FsLink", args: in(user0, 1, 1, "z"), code: 4},
		{name: "a file in a file", fs: home, call: "FsLink", args: in(user0, 2, 5, "z"), code: 4},
		{name: "a file in itself", fs: home, call: "FsLink", args: in(user0, 2, 2, "z"), code: 4},
		{name: "a folder, where one may not write", fs: home, call: "FsLink", args: in(user3, 4, 1, "z"), code: 4},
		{name: "where one may not write", fs: home, call: "FsLink", args: in(user4, 2, 6, "z"), code: 5},
		{name: "where one may not write, and there is the name", fs: fullFs(), call: "FsLink", args: in(user2, 3, 0, "a"), code: 5},
		{name: "where one may not write, a full folder", fs: fullFs(), call: "FsLink", args: in(user2, 3, 0, "z"), code: 5},
	})
}

func TestFsDropCases(t *testing.T) {
	home := homeFs()
	in := func(c impl.Cred, id int, name string) fsArgs { return fsArgs{cred: c, id: id, name: name} }
	checkFsCases(t, []fsCase{
		{name: "a file with another link in the folder", fs: home, call: "FsDrop", args: in(user2, 0, "b"), edits: []fsEdit{setNames(0, "a:1", "bc:2", "cde:3"), setLinks(2, 1)}},
		{name: "its other name", fs: home, call: "FsDrop", args: in(user2, 0, "bc"), edits: []fsEdit{setNames(0, "a:1", "b:2", "cde:3"), setLinks(2, 1)}},
		{name: "a file with another link in another folder", fs: home, call: "FsDrop", args: in(user3, 3, "f"), edits: []fsEdit{setNames(3, "x:6"), setLinks(5, 1)}},
		{name: "the last name of a file", fs: fullFs(), call: "FsDrop", args: in(user2, 2, "e"), edits: []fsEdit{setNames(2, "a:3", "b:3", "c:3", "d:3"), noNode(5)}},
		{name: "a file of someone else", fs: takenFs(), call: "FsDrop", args: in(user4, 0, "c"), edits: []fsEdit{setNames(0, "a:1", "b:2", "d:4"), noNode(3)}},
		{name: "the last name of a file that is open", fs: takenFs(), call: "FsDrop", args: in(user2, 1, "c"), edits: []fsEdit{setNames(1, "a:5", "b:6"), setLinks(7, 0)}},
		{name: "the last name of a file that is open 99 times", fs: openFs(), call: "FsDrop", args: in(user2, 7, "c"), edits: []fsEdit{setNames(7), setLinks(8, 0)}},
		{name: "an empty folder", fs: home, call: "FsDrop", args: in(user2, 1, "e"), edits: []fsEdit{setNames(1, "f:5"), noNode(4)}},
		{name: "an empty folder of someone else", fs: home, call: "FsDrop", args: in(user4, 3, "x"), edits: []fsEdit{setNames(3, "f:5"), noNode(6)}},
		{name: "the deepest folder", fs: deepFs(), call: "FsDrop", args: in(user2, 8, "d"), edits: []fsEdit{setNames(8), noNode(9)}},
		{name: "a folder with entries", fs: home, call: "FsDrop", args: in(user0, 0, "a"), code: 6},
		{name: "a folder with one entry", fs: deepFs(), call: "FsDrop", args: in(user2, 7, "d"), code: 6},
		{name: "an open folder with entries", fs: home, call: "FsDrop", args: in(user0, 0, "cde"), code: 6},
		{name: "an empty folder that is open", fs: openFs(), call: "FsDrop", args: in(user0, 0, "a"), code: 6},
		{name: "an empty folder that is open once", fs: withEdits(home, setOpens(6, 1)), call: "FsDrop", args: in(user0, 3, "x"), code: 6},
		{name: "no such name", fs: home, call: "FsDrop", args: in(user2, 0, "c"), code: 2},
		{name: "a name of an empty folder", fs: home, call: "FsDrop", args: in(user2, 4, "c"), code: 2},
		{name: "in a file", fs: home, call: "FsDrop", args: in(user2, 2, "c"), code: 4},
		{name: "in a file that one may not write", fs: home, call: "FsDrop", args: in(user3, 7, "c"), code: 4},
		{name: "where one may not write", fs: fullFs(), call: "FsDrop", args: in(user2, 0, "c"), code: 5},
		{name: "where one may not write, no such name", fs: fullFs(), call: "FsDrop", args: in(user2, 0, "z"), code: 5},
		{name: "where one may not write, a folder with entries", fs: fullFs(), call: "FsDrop", args: in(user2, 0, "a"), code: 5},
		{name: "one's own file in a folder that one may not write", fs: fullFs(), call: "FsDrop", args: in(user2, 0, "f"), code: 5},
	})
}

func TestFsMoveCases(t *testing.T) {
	home, full, mixed := homeFs(), fullFs(), mixedFs()
	in := func(c impl.Cred, from int, name string, to int, as string) fsArgs {
		return fsArgs{cred: c, id: from, name: name, other: to, as: as}
	}
	denied := withEdits(home, setMode(3, 0o755))
	checkFsCases(t, []fsCase{
		{name: "within a folder, ahead", fs: home, call: "FsMove", args: in(user2, 0, "bc", 0, "aa"), edits: []fsEdit{setNames(0, "a:1", "aa:2", "b:2", "cde:3")}},
		{name: "within a folder, behind", fs: home, call: "FsMove", args: in(user2, 0, "a", 0, "zzz"), edits: []fsEdit{setNames(0, "b:2", "bc:2", "cde:3", "zzz:1")}},
		{name: "within a folder, at its place", fs: home, call: "FsMove", args: in(user2, 0, "b", 0, "bb"), edits: []fsEdit{setNames(0, "a:1", "bb:2", "bc:2", "cde:3")}},
		{name: "within a full folder", fs: full, call: "FsMove", args: in(user2, 1, "b", 1, "z"), edits: []fsEdit{setNames(1, "a:3", "c:3", "d:3", "e:3", "f:4", "z:3")}},
		{name: "to the same name in another folder", fs: home, call: "FsMove", args: in(user2, 0, "b", 3, "b"), edits: []fsEdit{setNames(0, "a:1", "bc:2", "cde:3"), setNames(3, "b:2", "f:5", "x:6")}},
		{name: "to another name in another folder", fs: home, call: "FsMove", args: in(user2, 0, "bc", 4, "a"), edits: []fsEdit{setNames(0, "a:1", "b:2", "cde:3"), setNames(4, "a:2")}},
		{name: "up", fs: home, call: "FsMove", args: in(user2, 1, "f", 0, "f"), edits: []fsEdit{setNames(1, "e:4"), setNames(0, "a:1", "b:2", "bc:2", "cde:3", "f:5")}},
		{name: "a folder to one beside it", fs: home, call: "FsMove", args: in(user2, 0, "a", 3, "a"), edits: []fsEdit{setNames(0, "b:2", "bc:2", "cde:3"), setNames(3, "a:1", "f:5", "x:6")}},
		{name: "a folder up", fs: home, call: "FsMove", args: in(user2, 1, "e", 0, "e"), edits: []fsEdit{setNames(1, "f:5"), setNames(0, "a:1", "b:2", "bc:2", "cde:3", "e:4")}},
		{name: "a folder with folders below it up", fs: mixed, call: "FsMove", args: in(user0, 9, "s", 0, "r"), edits: []fsEdit{setNames(9), setNames(0, "p:9", "q:7", "r:5")}},
		{name: "a folder within its folder", fs: mixed, call: "FsMove", args: in(user2, 9, "s", 9, "abc"), edits: []fsEdit{setNames(9, "abc:5")}},
		{name: "a folder to one that is below another one", fs: home, call: "FsMove", args: in(user2, 3, "x", 4, "x"), edits: []fsEdit{setNames(3, "f:5"), setNames(4, "x:6")}},
		{name: "an open folder", fs: home, call: "FsMove", args: in(user2, 0, "cde", 4, "z"), edits: []fsEdit{setNames(0, "a:1", "b:2", "bc:2"), setNames(4, "z:3")}},
		{name: "an open file", fs: takenFs(), call: "FsMove", args: in(user2, 1, "c", 6, "a"), edits: []fsEdit{setNames(1, "a:5", "b:6"), setNames(6, "a:7")}},
		{name: "a file of someone else, which one may not read", fs: withEdits(home, setMode(2, 0)), call: "FsMove", args: in(user3, 0, "b", 3, "b"), edits: []fsEdit{setNames(0, "a:1", "bc:2", "cde:3"), setNames(3, "b:2", "f:5", "x:6")}},
		{name: "a folder that one may not go through", fs: withEdits(home, setMode(1, 0)), call: "FsMove", args: in(user3, 0, "a", 3, "a"), edits: []fsEdit{setNames(0, "b:2", "bc:2", "cde:3"), setNames(3, "a:1", "f:5", "x:6")}},
		{name: "to a folder with one entry less than all", fs: full, call: "FsMove", args: in(user2, 1, "f", 2, "f"), edits: []fsEdit{setNames(1, "a:3", "b:3", "c:3", "d:3", "e:3"), setNames(2, "a:3", "b:3", "c:3", "d:3", "e:5", "f:4")}},
		{name: "to a full folder", fs: full, call: "FsMove", args: in(user2, 2, "e", 1, "g"), code: 7},
		{name: "to a full folder that has the name", fs: full, call: "FsMove", args: in(user2, 2, "e", 1, "f"), code: 3},
		{name: "to a full folder, out of which it is", fs: full, call: "FsMove", args: in(user0, 1, "f", 0, "g"), code: 7},
		{name: "a folder into itself, which is full", fs: full, call: "FsMove", args: in(user0, 0, "a", 1, "g"), code: 6},
		{name: "onto itself", fs: home, call: "FsMove", args: in(user2, 0, "b", 0, "b"), code: 3},
		{name: "a folder onto itself", fs: home, call: "FsMove", args: in(user2, 0, "a", 0, "a"), code: 3},
		{name: "to another name of the same file", fs: home, call: "FsMove", args: in(user2, 0, "b", 0, "bc"), code: 3},
		{name: "to the name of another node", fs: home, call: "FsMove", args: in(user2, 0, "b", 1, "f"), code: 3},
		{name: "a name that is not there, to itself", fs: home, call: "FsMove", args: in(user2, 0, "z", 0, "z"), code: 2},
		{name: "a name that is not there, to one that is", fs: home, call: "FsMove", args: in(user2, 0, "z", 0, "a"), code: 2},
		{name: "a name that is not there, to a full folder", fs: full, call: "FsMove", args: in(user2, 2, "z", 1, "z"), code: 2},
		{name: "a folder into itself", fs: home, call: "FsMove", args: in(user2, 0, "a", 1, "z"), code: 6},
		{name: "a folder into itself, to a name that it has", fs: home, call: "FsMove", args: in(user2, 0, "a", 1, "e"), code: 3},
		{name: "a folder below itself", fs: home, call: "FsMove", args: in(user2, 0, "a", 4, "z"), code: 6},
		{name: "a folder far below itself", fs: mixed, call: "FsMove", args: in(user0, 0, "p", 1, "z"), code: 6},
		{name: "a folder from below to itself", fs: mixed, call: "FsMove", args: in(user2, 9, "s", 1, "z"), code: 6},
		{name: "the first one of all to the deepest", fs: deepFs(), call: "FsMove", args: in(user2, 0, "d", 9, "d"), code: 6},
		{name: "the last but one to the deepest", fs: deepFs(), call: "FsMove", args: in(user2, 7, "d", 9, "d"), code: 6},
		{name: "the deepest up", fs: deepFs(), call: "FsMove", args: in(user2, 8, "d", 0, "e"), edits: []fsEdit{setNames(8), setNames(0, "d:1", "e:9")}},
		{name: "from a file", fs: home, call: "FsMove", args: in(user2, 2, "a", 0, "z"), code: 4},
		{name: "to a file", fs: home, call: "FsMove", args: in(user2, 0, "a", 2, "z"), code: 4},
		{name: "to a file, from where one may not write", fs: home, call: "FsMove", args: in(user3, 1, "e", 2, "z"), code: 4},
		{name: "from a file, to where one may not write", fs: home, call: "FsMove", args: in(user3, 2, "e", 1, "z"), code: 4},
		{name: "from where one may not write", fs: denied, call: "FsMove", args: in(user2, 3, "x", 0, "x"), code: 5},
		{name: "to where one may not write", fs: denied, call: "FsMove", args: in(user2, 0, "b", 3, "b"), code: 5},
		{name: "to where one may not write, what is not there", fs: denied, call: "FsMove", args: in(user2, 0, "z", 3, "x"), code: 5},
		{name: "to where one may not write, into itself", fs: denied, call: "FsMove", args: in(user2, 0, "cde", 3, "a"), code: 5},
		{name: "from where one may not write, to a full folder", fs: full, call: "FsMove", args: in(user2, 0, "f", 1, "g"), code: 5},
	})
}

func TestFsReadCases(t *testing.T) {
	texts, great := textsFs(), greatPlaces()
	in := func(id, at, many int) fsArgs { return fsArgs{id: id, at: at, many: many} }
	list := []fsCase{
		{name: "all", fs: texts, call: "FsRead", args: in(9, 0, 10), text: "0123456789"},
		{name: "the beginning", fs: texts, call: "FsRead", args: in(9, 0, 1), text: "0"},
		{name: "the middle", fs: texts, call: "FsRead", args: in(9, 3, 4), text: "3456"},
		{name: "the end", fs: texts, call: "FsRead", args: in(9, 7, 3), text: "789"},
		{name: "more than there are", fs: texts, call: "FsRead", args: in(9, 7, 4), text: "789"},
		{name: "the last byte", fs: texts, call: "FsRead", args: in(9, 9, 99), text: "9"},
		{name: "at the end", fs: texts, call: "FsRead", args: in(9, 10, 1)},
		{name: "behind the end", fs: texts, call: "FsRead", args: in(9, 11, 5)},
		{name: "no bytes", fs: texts, call: "FsRead", args: in(9, 4, 0)},
		{name: "no bytes behind the end", fs: texts, call: "FsRead", args: in(9, 40, 0)},
		{name: "an empty file", fs: texts, call: "FsRead", args: in(1, 0, 40)},
		{name: "40 bytes", fs: texts, call: "FsRead", args: in(4, 0, 40), text: strings.Repeat("wxyz", 10)},
		{name: "the last one of 40 bytes", fs: texts, call: "FsRead", args: in(4, 39, 40), text: "z"},
		{name: "zero bytes and others", fs: texts, call: "FsRead", args: in(5, 0, 4), text: "\x00\xff\x00\xc3"},
		{name: "a file without a name", fs: homeFs(), call: "FsRead", args: in(7, 1, 9), text: "eft"},
		{name: "a file of no rights", fs: openFs(), call: "FsRead", args: in(3, 0, 9), text: "two"},
		{name: "a folder", fs: homeFs(), call: "FsRead", args: in(1, 0, 1), code: 4},
		{name: "the first folder, no bytes", fs: homeFs(), call: "FsRead", args: in(0, 0, 0), code: 4},
	}
	for _, n := range great {
		list = append(list,
			fsCase{name: fmt.Sprintf("%d bytes", n), fs: texts, call: "FsRead", args: in(9, 0, n), text: "0123456789"},
			fsCase{name: fmt.Sprintf("%d bytes from the middle", n), fs: texts, call: "FsRead", args: in(9, 5, n), text: "56789"},
			fsCase{name: fmt.Sprintf("from %d on", n), fs: texts, call: "FsRead", args: in(9, n, 1)},
			fsCase{name: fmt.Sprintf("%d bytes from there on", n), fs: texts, call: "FsRead", args: in(4, n, n)})
	}
	checkFsCases(t, list)
}

func TestFsWriteCases(t *testing.T) {
	texts := textsFs()
	in := func(id, at int, text string) fsArgs { return fsArgs{id: id, at: at, text: text} }
	to := func(id int, text string) []fsEdit { return []fsEdit{setText(id, text)} }
	long := strings.Repeat("wxyz", 10)
	list := []fsCase{
		{name: "ahead of the end", fs: texts, call: "FsWrite", args: in(9, 2, "ab"), edits: to(9, "01ab456789")},
		{name: "at the beginning", fs: texts, call: "FsWrite", args: in(9, 0, "a"), edits: to(9, "a123456789")},
		{name: "up to the end", fs: texts, call: "FsWrite", args: in(9, 7, "abc"), edits: to(9, "0123456abc")},
		{name: "across the end", fs: texts, call: "FsWrite", args: in(9, 8, "abcd"), edits: to(9, "01234567abcd")},
		{name: "across all", fs: texts, call: "FsWrite", args: in(9, 0, "abcdefghijkl"), edits: to(9, "abcdefghijkl")},
		{name: "at the end", fs: texts, call: "FsWrite", args: in(9, 10, "abc"), edits: to(9, "0123456789abc")},
		{name: "behind the end", fs: texts, call: "FsWrite", args: in(9, 12, "abc"), edits: to(9, "0123456789\x00\x00abc")},
		{name: "one behind the end", fs: texts, call: "FsWrite", args: in(9, 11, "a"), edits: to(9, "0123456789\x00a")},
		{name: "an empty file", fs: texts, call: "FsWrite", args: in(1, 0, "abc"), edits: to(1, "abc")},
		{name: "an empty file, with zero bytes", fs: texts, call: "FsWrite", args: in(1, 4, "a"), edits: to(1, "\x00\x00\x00\x00a")},
		{name: "up to 40 bytes", fs: texts, call: "FsWrite", args: in(9, 10, long[:30]), edits: to(9, "0123456789"+long[:30])},
		{name: "up to 41 bytes", fs: texts, call: "FsWrite", args: in(9, 10, long[:31]), code: 7},
		{name: "the byte 40", fs: texts, call: "FsWrite", args: in(3, 39, "z"), edits: to(3, strings.Repeat("abc", 13)+"z")},
		{name: "the byte 41", fs: texts, call: "FsWrite", args: in(4, 40, "z"), code: 7},
		{name: "the byte 40, far behind the end", fs: texts, call: "FsWrite", args: in(2, 39, "z"), edits: to(2, "x"+strings.Repeat("\x00", 38)+"z")},
		{name: "two bytes from 39 on", fs: texts, call: "FsWrite", args: in(2, 39, "zz"), code: 7},
		{name: "40 bytes over 40", fs: texts, call: "FsWrite", args: in(4, 0, strings.Repeat("1", 40)), edits: to(4, strings.Repeat("1", 40))},
		{name: "the last one of 40", fs: texts, call: "FsWrite", args: in(4, 39, "1"), edits: to(4, long[:39]+"1")},
		{name: "41 bytes", fs: texts, call: "FsWrite", args: in(1, 0, strings.Repeat("1", 41)), code: 7},
		{name: "1000 bytes", fs: texts, call: "FsWrite", args: in(1, 3, strings.Repeat("1", 1000)), code: 7},
		{name: "20 letters that are 40 bytes", fs: texts, call: "FsWrite", args: in(1, 0, strings.Repeat("é", 20)), edits: to(1, strings.Repeat("é", 20))},
		{name: "21 letters that are 42 bytes", fs: texts, call: "FsWrite", args: in(1, 0, strings.Repeat("é", 21)), code: 7},
		{name: "a zero byte", fs: texts, call: "FsWrite", args: in(9, 3, "\x00"), edits: to(9, "012\x00456789")},
		{name: "bytes that are no letters", fs: texts, call: "FsWrite", args: in(5, 4, "\xfe\xfd"), edits: to(5, "\x00\xff\x00\xc3\xfe\xfd\x80")},
		{name: "no bytes", fs: texts, call: "FsWrite", args: in(9, 3, "")},
		{name: "no bytes at the end", fs: texts, call: "FsWrite", args: in(9, 10, "")},
		{name: "no bytes behind the end", fs: texts, call: "FsWrite", args: in(9, 20, "")},
		{name: "no bytes at 40", fs: texts, call: "FsWrite", args: in(9, 40, "")},
		{name: "no bytes at 41", fs: texts, call: "FsWrite", args: in(9, 41, ""), code: 7},
		{name: "no bytes at 40 of 40", fs: texts, call: "FsWrite", args: in(4, 40, "")},
		{name: "a file without a name", fs: homeFs(), call: "FsWrite", args: in(7, 4, "over"), edits: to(7, "leftover")},
		{name: "a file of no rights, with Mark", fs: openFs(), call: "FsWrite", args: in(3, 0, "T"), edits: to(3, "Two")},
		{name: "a folder", fs: homeFs(), call: "FsWrite", args: in(1, 0, "a"), code: 4},
		{name: "a folder, no bytes", fs: homeFs(), call: "FsWrite", args: in(0, 0, ""), code: 4},
		{name: "a folder, too many bytes", fs: homeFs(), call: "FsWrite", args: in(4, 41, "a"), code: 4},
	}
	for _, n := range greatPlaces() {
		list = append(list,
			fsCase{name: fmt.Sprintf("at %d", n), fs: texts, call: "FsWrite", args: in(9, n, "abc"), code: 7},
			fsCase{name: fmt.Sprintf("41 bytes at %d", n), fs: texts, call: "FsWrite", args: in(9, n, strings.Repeat("a", 41)), code: 7},
			fsCase{name: fmt.Sprintf("no bytes at %d", n), fs: texts, call: "FsWrite", args: in(9, n, ""), code: 7})
	}
	checkFsCases(t, list)
}

func TestFsModeOwnAndMarkCases(t *testing.T) {
	home := homeFs()
	mode := func(c impl.Cred, id, mode int) fsArgs { return fsArgs{cred: c, id: id, mode: mode} }
	own := func(c impl.Cred, id, owner int) fsArgs { return fsArgs{cred: c, id: id, owner: owner} }
	mark := func(c impl.Cred, id int, mark bool) fsArgs { return fsArgs{cred: c, id: id, flag: mark} }
	run := someone(4, 2)
	checkFsCases(t, []fsCase{
		{name: "a file, by its owner", fs: home, call: "FsMode", args: mode(user2, 2, 0), edits: []fsEdit{setMode(2, 0)}},
		{name: "a folder, by its owner", fs: home, call: "FsMode", args: mode(user2, 1, 511), edits: []fsEdit{setMode(1, 511)}},
		{name: "a file with Mark, by its owner", fs: home, call: "FsMode", args: mode(run, 5, 0o700), edits: []fsEdit{setMode(5, 0o700)}},
		{name: "a file without a name", fs: home, call: "FsMode", args: mode(user2, 7, 0o123), edits: []fsEdit{setMode(7, 0o123)}},
		{name: "the first folder, by the user 0", fs: home, call: "FsMode", args: mode(user0, 0, 0o700), edits: []fsEdit{setMode(0, 0o700)}},
		{name: "the file of someone, by the user 0", fs: home, call: "FsMode", args: mode(user0, 5, 0o700), edits: []fsEdit{setMode(5, 0o700)}},
		{name: "to the same mode", fs: home, call: "FsMode", args: mode(user2, 2, 0o644)},
		{name: "by who is in the group and may write", fs: home, call: "FsMode", args: mode(user4, 1, 0o777), code: 5},
		{name: "by who is just really the owner", fs: home, call: "FsMode", args: mode(run, 2, 0o777), code: 5},
		{name: "by who is just really the user 0", fs: home, call: "FsMode", args: mode(someone(4, 0), 2, 0o777), code: 5},
		{name: "the first folder, by who may write it", fs: home, call: "FsMode", args: mode(user2, 0, 0o700), code: 5},
		{name: "a file, by the user 0", fs: home, call: "FsOwn", args: own(user0, 2, 7), edits: []fsEdit{setOwner(2, 7)}},
		{name: "a file with Mark, by the user 0", fs: home, call: "FsOwn", args: own(user0, 5, 0), edits: []fsEdit{setOwner(5, 0), setMark(5, false)}},
		{name: "a file with Mark, to its owner", fs: home, call: "FsOwn", args: own(user0, 5, 4), edits: []fsEdit{setMark(5, false)}},
		{name: "a folder, by the user 0", fs: home, call: "FsOwn", args: own(someone(0, 3), 1, 9), edits: []fsEdit{setOwner(1, 9)}},
		{name: "the first folder, by the user 0", fs: home, call: "FsOwn", args: own(user0, 0, 3), edits: []fsEdit{setOwner(0, 3)}},
		{name: "a file without a name, by the user 0", fs: openFs(), call: "FsOwn", args: own(user0, 3, 0), edits: []fsEdit{setOwner(3, 0), setMark(3, false)}},
		{name: "by the owner", fs: home, call: "FsOwn", args: own(user2, 2, 3), code: 5},
		{name: "by the owner, to the same one", fs: home, call: "FsOwn", args: own(someone(4, 0), 5, 4), code: 5},
		{name: "by another one", fs: home, call: "FsOwn", args: own(user3, 2, 3), code: 5},
		{name: "a folder, by who may write it", fs: home, call: "FsOwn", args: own(user2, 3, 2), code: 5},
		{name: "a file, by its owner", fs: home, call: "FsMark", args: mark(user2, 2, true), edits: []fsEdit{setMark(2, true)}},
		{name: "no Mark, by the owner", fs: home, call: "FsMark", args: mark(run, 5, false), edits: []fsEdit{setMark(5, false)}},
		{name: "a file, by the user 0", fs: home, call: "FsMark", args: mark(user0, 7, true), edits: []fsEdit{setMark(7, true)}},
		{name: "a file that has a Mark", fs: home, call: "FsMark", args: mark(run, 5, true)},
		{name: "none of a file that has none", fs: home, call: "FsMark", args: mark(user2, 2, false)},
		{name: "by another one", fs: home, call: "FsMark", args: mark(user3, 2, true), code: 5},
		{name: "none, by another one", fs: home, call: "FsMark", args: mark(user2, 5, false), code: 5},
		{name: "by who is just really the owner", fs: home, call: "FsMark", args: mark(run, 2, true), code: 5},
		{name: "by who is in the group", fs: home, call: "FsMark", args: mark(someone(2, 2, 5), 5, false), code: 5},
		{name: "a folder, by its owner", fs: home, call: "FsMark", args: mark(user2, 1, true), code: 4},
		{name: "a folder, none", fs: home, call: "FsMark", args: mark(user2, 1, false), code: 4},
		{name: "the first folder, by the user 0", fs: home, call: "FsMark", args: mark(user0, 0, true), code: 4},
		{name: "a folder, by another one", fs: home, call: "FsMark", args: mark(user3, 1, true), code: 4},
	})
}

func TestFsOpenCases(t *testing.T) {
	home, open := homeFs(), openFs()
	in := func(id int, more bool) fsArgs { return fsArgs{id: id, flag: more} }
	checkFsCases(t, []fsCase{
		{name: "a file", fs: home, call: "FsOpen", args: in(2, true), edits: []fsEdit{setOpens(2, 1)}},
		{name: "a folder", fs: home, call: "FsOpen", args: in(1, true), edits: []fsEdit{setOpens(1, 1)}},
		{name: "the first folder", fs: home, call: "FsOpen", args: in(0, true), edits: []fsEdit{setOpens(0, 1)}},
		{name: "an open file without a name", fs: home, call: "FsOpen", args: in(7, true), edits: []fsEdit{setOpens(7, 3)}},
		{name: "up to 99 times", fs: open, call: "FsOpen", args: in(5, true), edits: []fsEdit{setOpens(5, 99)}},
		{name: "a folder up to 99 times", fs: open, call: "FsOpen", args: in(6, true), edits: []fsEdit{setOpens(6, 99)}},
		{name: "once more than 99 times", fs: open, call: "FsOpen", args: in(4, true), code: 6},
		{name: "a folder once more than 99 times", fs: open, call: "FsOpen", args: in(7, true), code: 6},
		{name: "a file with a name once more than 99 times", fs: open, call: "FsOpen", args: in(8, true), code: 6},
		{name: "once less than 99 times", fs: open, call: "FsOpen", args: in(4, false), edits: []fsEdit{setOpens(4, 98)}},
		{name: "once less than twice", fs: home, call: "FsOpen", args: in(7, false), edits: []fsEdit{setOpens(7, 1)}},
		{name: "a file without a name once less than once", fs: open, call: "FsOpen", args: in(1, false), edits: []fsEdit{noNode(1)}},
		{name: "a file with a name once less than once", fs: withEdits(home, setOpens(2, 1)), call: "FsOpen", args: in(2, false), edits: []fsEdit{setOpens(2, 0)}},
		{name: "a folder once less than once", fs: home, call: "FsOpen", args: in(3, false), edits: []fsEdit{setOpens(3, 0)}},
		{name: "an empty folder once less than once", fs: withEdits(home, setOpens(4, 1)), call: "FsOpen", args: in(4, false), edits: []fsEdit{setOpens(4, 0)}},
		{name: "the first folder once less than once", fs: open, call: "FsOpen", args: in(0, false), edits: []fsEdit{setOpens(0, 0)}},
		{name: "the first folder of a new one once less than once", fs: withEdits(newFs(0, 0), setOpens(0, 1)), call: "FsOpen", args: in(0, false), edits: []fsEdit{setOpens(0, 0)}},
		{name: "the first folder of a new one once less than twice", fs: withEdits(newFs(0, 0), setOpens(0, 2)), call: "FsOpen", args: in(0, false), edits: []fsEdit{setOpens(0, 1)}},
		{name: "a file that is not open, once less", fs: home, call: "FsOpen", args: in(2, false), code: 6},
		{name: "a folder that is not open, once less", fs: home, call: "FsOpen", args: in(4, false), code: 6},
		{name: "the first folder, not open, once less", fs: home, call: "FsOpen", args: in(0, false), code: 6},
	})
}

// Who may go through a folder, and who may write it, and what of both the calls ask for.
func TestFsRightsCases(t *testing.T) {
	for _, x := range []struct {
		name string
		cred impl.Cred
		mode int
		look bool
		edit bool
	}{
		{"the owner, neither", user2, 0o477, false, false},
		{"the owner, through", user2, 0o577, true, false},
		{"the owner, write", user2, 0o677, false, false},
		{"the owner, both", user2, 0o300, true, true},
		{"the owner in the group, both by the group", someone(2, 2, 5), 0o477, false, false},
		{"the group, neither", user4, 0o747, false, false},
		{"the group, through", user4, 0o757, true, false},
		{"the group, write", user4, 0o767, false, false},
		{"the group, both", user4, 0o030, true, true},
		{"the group as the last one of three", someone(4, 4, 0, 1, 5), 0o030, true, true},
		{"others, neither", user3, 0o774, false, false},
		{"others, through", user3, 0o775, true, false},
		{"others, write", user3, 0o776, false, false},
		{"others, both", user3, 0o003, true, true},
		{"others in other groups, both by the group", someone(3, 3, 4, 6), 0o774, false, false},
		{"really the owner, both by the owner", someone(3, 2), 0o774, false, false},
		{"the user 0, without digits", user0, 0, false, false},
		{"the user 0, where all may read and write", user0, 0o666, false, false},
		{"the user 0, where the owner goes through", user0, 0o100, true, true},
		{"the user 0, where the group goes through", user0, 0o010, true, true},
		{"the user 0, where others go through", user0, 0o001, true, true},
		{"really the user 0", someone(3, 0), 0o775, true, false},
	} {
		f := withEdits(rightsFs(0o777, 0, 0, 0, 0), setMode(1, x.mode))
		_, look := impl.FsLook(f, x.cred, 1, "f")
		_, _, made := impl.FsMake(f, x.cred, 1, "m", 1, 0)
		_, link := impl.FsLink(f, x.cred, 7, 1, "m")
		_, drop := impl.FsDrop(f, x.cred, 1, "f")
		_, out := impl.FsMove(f, x.cred, 1, "f", 9, "m")
		_, into := impl.FsMove(f, x.cred, 9, "g", 1, "m")
		_, within := impl.FsMove(f, x.cred, 1, "f", 1, "m")
		code := map[bool]int{true: 0, false: 5}
		if got := fmt.Sprint(look, made, link, drop, out, into, within); got != fmt.Sprint(code[x.look], code[x.edit], code[x.edit], code[x.edit], code[x.edit], code[x.edit], code[x.edit]) {
			t.Errorf("%s: FsLook, FsMake, FsLink, FsDrop, FsMove out, into and within told %s, want %d and %d", x.name, got, code[x.look], code[x.edit])
		}
	}
}

// A file that is open and has no name is read, written and linked like others, till it is closed.
func TestFsFilesWithoutNames(t *testing.T) {
	f, id, code := impl.FsMake(newFs(0, 0o777), user2, 0, "tmp", 1, 0o600)
	f, _ = impl.FsOpen(f, id, true)
	f, _ = impl.FsOpen(f, id, true)
	f, _ = impl.FsWrite(f, id, 0, "kept")
	f, drop := impl.FsDrop(f, user2, 0, "tmp")
	left := diskOf(folder(0o777, 0, 0), opened(file(0o600, 2, 2, "kept"), 2))
	if code != 0 || id != 1 || drop != 0 {
		t.Fatalf("FsMake and FsDrop told %d, %d and %d", id, code, drop)
	}
	wantFs(t, "dropped", f, left)
	f, write := impl.FsWrite(f, id, 4, " on")
	s, read := impl.FsRead(f, id, 0, 40)
	if write != 0 || read != 0 || s != "kept on" {
		t.Fatalf("FsWrite told %d, and FsRead %q, %d", write, s, read)
	}
	g, link := impl.FsLink(f, user2, id, 0, "new")
	g, one := impl.FsOpen(g, id, false)
	g, none := impl.FsOpen(g, id, false)
	if link != 0 || one != 0 || none != 0 {
		t.Fatalf("FsLink told %d, and FsOpen %d and %d", link, one, none)
	}
	wantFs(t, "linked again, and closed", g, diskOf(folder(0o777, 0, 0, "new:1"), file(0o600, 2, 2, "kept on")))
	f, one = impl.FsOpen(f, id, false)
	wantFsCode(t, "closed once", f, one, diskOf(folder(0o777, 0, 0), opened(file(0o600, 2, 2, "kept on"), 1)), 0)
	f, none = impl.FsOpen(f, id, false)
	wantFsCode(t, "closed twice", f, none, newFs(0, 0o777), 0)
	f, none = impl.FsOpen(f, id, false)
	wantFsCode(t, "closed three times", f, none, impl.Fs{}, 1)
}
