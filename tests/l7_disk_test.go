package tests

import (
	"fmt"
	"math/rand"
	"slices"
	"strings"
	"testing"

	"loop.example/quarterdeck/impl"
)

// fsNames are some names, of each length.
func fsNames() []string {
	return []string{"a", "b", "z", "bc", "zz", "cde", "zzz"}
}

// fsCreds are a few of those who do something.
func fsCreds() []namedCred {
	list := fewCreds()
	return []namedCred{list[0], list[2], list[4], list[5], list[7], {"the user 3", someone(3, 3)}}
}

// kindsOf are the numbers of nodes of a kind.
func kindsOf(f impl.Fs, kind int) []int {
	list := []int{}
	for id, i := range f.Nodes {
		if i.Kind == kind {
			list = append(list, id)
		}
	}
	return list
}

// nodesOf are the numbers of all nodes that are not free.
func nodesOf(f impl.Fs) []int {
	return append(kindsOf(f, 2), kindsOf(f, 1)...)
}

// fsEntry is a folder and a name that it has, with the number to which it leads.
type fsEntry struct {
	folder int
	name   string
	id     int
}

// allEntries are those of all folders.
func allEntries(f impl.Fs) []fsEntry {
	list := []fsEntry{}
	for folder, i := range f.Nodes {
		for _, e := range i.Names {
			list = append(list, fsEntry{folder, e.Name, e.Id})
		}
	}
	return list
}

// wantAllLinks checks that each node has as many links as entries lead to it, and all have as many as there are entries.
func wantAllLinks(t *testing.T, what string, f impl.Fs) {
	t.Helper()
	all := 0
	for id, i := range f.Nodes {
		many := 0
		for _, e := range allEntries(f) {
			if e.id == id {
				many++
			}
		}
		if i.Links != many {
			t.Fatalf("%s: node %d has %d links, and %d entries lead to it: %s", what, id, i.Links, many, fsText(f))
		}
		all += i.Links
	}
	if all != len(allEntries(f)) {
		t.Fatalf("%s: %d links, and %d entries", what, all, len(allEntries(f)))
	}
}

// wantTextsKept checks that no file that is there both times has another text.
func wantTextsKept(t *testing.T, what string, was, f impl.Fs) {
	t.Helper()
	for id, i := range f.Nodes {
		if i.Kind == 1 && was.Nodes[id].Kind == 1 && i.Text != was.Nodes[id].Text {
			t.Fatalf("%s: the text of node %d is %q, and was %q", what, id, i.Text, was.Nodes[id].Text)
		}
	}
}

// wantJustNode checks that all nodes but one are as they were.
func wantJustNode(t *testing.T, what string, was, f impl.Fs, id int) {
	t.Helper()
	for other := range 10 {
		if other != id && !sameInode(f.Nodes[other], was.Nodes[other]) {
			t.Fatalf("%s: node %d is another one: %s\nand was %s", what, other, fsText(f), fsText(was))
		}
	}
}

// wantFailed checks that a call that failed, with all arguments valid, left all as it was.
func wantFailed(t *testing.T, what string, was, f impl.Fs, code int) {
	t.Helper()
	if code == 0 || code == 1 {
		t.Fatalf("%s: code %d", what, code)
	}
	wantFs(t, what+" that failed", f, was)
}

// Promise 52.
func TestFsNewIsJustAFirstFolder(t *testing.T) {
	for owner := range 10 {
		for mode := range 512 {
			f, ok := impl.FsNew(owner, mode)
			what := fmt.Sprintf("FsNew of %d and %03o", owner, mode)
			if !ok {
				t.Fatalf("%s fails", what)
			}
			wantValidFs(t, what, f)
			wantFs(t, what, f, newFs(owner, mode))
		}
	}
	for _, n := range noUsers() {
		for _, mode := range []int{0, 493, 511} {
			wantNoFs(t, n, mode)
		}
	}
	for _, mode := range noModes() {
		for _, owner := range append(noUsers(), 0, 2, 9) {
			wantNoFs(t, owner, mode)
		}
	}
}

// wantNoFs checks that FsNew fails with nothing.
func wantNoFs(t *testing.T, owner, mode int) {
	t.Helper()
	f, ok := impl.FsNew(owner, mode)
	if ok || len(f.Nodes) != 0 {
		t.Fatalf("FsNew of %d and %d is %v, %s", owner, mode, ok, fsText(f))
	}
}

// Promise 53.
func TestFsOkOfValidAndInvalid(t *testing.T) {
	for _, x := range validFss() {
		wantValidFs(t, x.name, x.fs)
		wantAllLinks(t, x.name, x.fs)
	}
	for _, x := range invalidFss() {
		if impl.FsOk(x.fs) || fsIsValid(x.fs) {
			t.Errorf("%s: FsOk is true", x.name)
		}
	}
}

// Promise 53: of file systems in which some things were changed, valid and invalid.
func TestFsOkOfChangedFileSystems(t *testing.T) {
	r, seen := rand.New(rand.NewSource(53)), map[bool]int{}
	for _, x := range validFss() {
		for range 400 {
			f := cloneFs(x.fs)
			for range 1 + r.Intn(3) {
				changeFs(r, f)
			}
			ok := impl.FsOk(f)
			if ok != fsIsValid(f) {
				t.Fatalf("%s, changed: FsOk is %v: %s", x.name, ok, fsText(f))
			}
			if ok {
				wantAllLinks(t, x.name+", changed", f)
			}
			seen[ok]++
		}
	}
	if seen[true] < 500 || seen[false] < 500 {
		t.Errorf("%d were valid and %d not", seen[true], seen[false])
	}
}

// changeFs changes one thing of a node.
func changeFs(r *rand.Rand, f impl.Fs) {
	i := &f.Nodes[r.Intn(10)]
	near := func(n int) int { return n + r.Intn(3) - 1 }
	switch r.Intn(12) {
	case 0:
		i.Kind = near(i.Kind)
	case 1:
		i.Mode = pick(r, []int{-1, 0, 511, 512})
	case 2:
		i.Owner = pick(r, []int{-1, 0, 9, 10})
	case 3:
		i.Group = pick(r, []int{-1, 0, 9, 10})
	case 4:
		i.Links = near(i.Links)
	case 5:
		i.Opens = pick(r, []int{-1, 0, 1, 99, 100})
	case 6:
		i.Mark = !i.Mark
	case 7:
		i.Text = strings.Repeat("x", pick(r, []int{0, 1, 40, 41}))
	case 8, 9:
		if len(i.Names) > 0 {
			k := r.Intn(len(i.Names))
			i.Names[k].Id = near(i.Names[k].Id)
		}
	case 10:
		if len(i.Names) > 0 {
			i.Names[r.Intn(len(i.Names))].Name = pick(r, append(fsNames(), "", "A", "abcd"))
		}
	default:
		to := r.Intn(10)
		i.Names = append(i.Names, impl.Entry{Name: "zzz", Id: to})
		f.Nodes[to].Links += r.Intn(2)
	}
}

// Promise 54.
func TestFsLookFindsTheNumber(t *testing.T) {
	for _, x := range validFss() {
		for _, c := range fsCreds() {
			for _, id := range nodesOf(x.fs) {
				for _, name := range fsNames() {
					what := fmt.Sprintf("%s: FsLook of %q in %d by %s", x.name, name, id, c.name)
					n, code := impl.FsLook(x.fs, c.cred, id, name)
					if code == 0 && (idOf(x.fs, id, name) != n || n < 0 || !mayAt(x.fs, c.cred, id, 1)) {
						t.Fatalf("%s told %d: %s", what, n, fsText(x.fs))
					}
					found := idOf(x.fs, id, name) >= 0 && mayAt(x.fs, c.cred, id, 1)
					if code != 0 && (n != -1 || found || code == 1) {
						t.Fatalf("%s told %d and the code %d: %s", what, n, code, fsText(x.fs))
					}
				}
			}
		}
	}
}

// Promises 55, 66 and 68: FsMake.
func TestFsMakeMakesANewNode(t *testing.T) {
	done := 0
	for k, x := range validFss() {
		for _, c := range fsCreds() {
			for _, id := range nodesOf(x.fs) {
				for _, name := range fsNames() {
					kind, mode := 1+(k+len(name))%2, (k*37+id*101)%512
					what := fmt.Sprintf("%s: FsMake of %q in %d by %s", x.name, name, id, c.name)
					f, n, code := impl.FsMake(x.fs, c.cred, id, name, kind, mode)
					if code != 0 {
						wantFailed(t, what, x.fs, f, code)
						if n != -1 {
							t.Fatalf("%s: told %d and the code %d", what, n, code)
						}
						continue
					}
					done++
					wantMade(t, what, x.fs, f, c.cred, id, name, n)
					if i := f.Nodes[n]; i.Kind != kind || i.Mode != mode {
						t.Fatalf("%s: kind %d and mode %03o, want %d and %03o", what, i.Kind, i.Mode, kind, mode)
					}
					back, code := impl.FsDrop(f, c.cred, id, name)
					wantFsCode(t, what+", and FsDrop", back, code, x.fs, 0)
				}
			}
		}
	}
	if done < 500 {
		t.Errorf("FsMake was done %d times", done)
	}
}

// wantMade checks a file system behind FsMake.
func wantMade(t *testing.T, what string, was, f impl.Fs, c impl.Cred, id int, name string, n int) {
	t.Helper()
	wantValidFs(t, what, f)
	wantAllLinks(t, what, f)
	least := slices.Index(kindsOf(was, 0), n)
	group := c.User
	if len(c.Groups) > 0 {
		group = c.Groups[0]
	}
	i := f.Nodes[n]
	if least != 0 || idOf(f, id, name) != n || i.Owner != c.User || i.Group != group || i.Text != "" || len(i.Names) != 0 || i.Mark || i.Opens != 0 || i.Links != 1 {
		t.Fatalf("%s: told %d: %s", what, n, fsText(f))
	}
	if found, code := impl.FsLook(f, c, id, name); found != n || code != 0 {
		t.Fatalf("%s: FsLook told %d, %d, want %d", what, found, code, n)
	}
	if !mayAt(was, c, id, 3) {
		t.Fatalf("%s: one may not go through and write it: %s", what, fsText(was))
	}
	f = cloneFs(f)
	f.Nodes[id].Names = was.Nodes[id].Names
	wantJustNode(t, what, was, f, n)
}

// Promises 56 and 68: FsLink.
func TestFsLinkIsOneLinkMore(t *testing.T) {
	done := 0
	for _, x := range validFss() {
		for _, c := range fsCreds() {
			for k, id := range nodesOf(x.fs) {
				for at, file := range nodesOf(x.fs) {
					name := fsNames()[(3*k+at)%7]
					what := fmt.Sprintf("%s: FsLink of %d as %q in %d by %s", x.name, file, name, id, c.name)
					f, code := impl.FsLink(x.fs, c.cred, file, id, name)
					if code != 0 {
						wantFailed(t, what, x.fs, f, code)
						continue
					}
					done++
					wantValidFs(t, what, f)
					wantAllLinks(t, what, f)
					if idOf(f, id, name) != file || f.Nodes[file].Links != x.fs.Nodes[file].Links+1 || f.Nodes[file].Kind != 1 || !mayAt(x.fs, c.cred, id, 3) {
						t.Fatalf("%s: of %s\nis %s", what, fsText(x.fs), fsText(f))
					}
					back, code := impl.FsDrop(f, c.cred, id, name)
					wantFsCode(t, what+", and FsDrop", back, code, x.fs, 0)
				}
			}
		}
	}
	if done < 500 {
		t.Errorf("FsLink was done %d times", done)
	}
}

// Promises 57 and 68: FsDrop.
func TestFsDropTakesTheName(t *testing.T) {
	freed, kept := 0, 0
	for _, x := range validFss() {
		for _, c := range fsCreds() {
			for _, e := range allEntries(x.fs) {
				what := fmt.Sprintf("%s: FsDrop of %q in %d by %s", x.name, e.name, e.folder, c.name)
				f, code := impl.FsDrop(x.fs, c.cred, e.folder, e.name)
				if code != 0 {
					wantFailed(t, what, x.fs, f, code)
					continue
				}
				wantValidFs(t, what, f)
				wantAllLinks(t, what, f)
				was, i := x.fs.Nodes[e.id], f.Nodes[e.id]
				free := was.Links == 1 && was.Opens == 0
				if idOf(f, e.folder, e.name) != -1 || free != (i.Kind == 0) || !free && (i.Links != was.Links-1 || i.Opens != was.Opens) || !mayAt(x.fs, c.cred, e.folder, 3) {
					t.Fatalf("%s: of %s\nis %s", what, fsText(x.fs), fsText(f))
				}
				if _, code := impl.FsLook(f, c.cred, e.folder, e.name); code != 2 {
					t.Fatalf("%s: FsLook then told the code %d", what, code)
				}
				wantTextsKept(t, what, x.fs, f)
				f = cloneFs(f)
				f.Nodes[e.folder].Names = x.fs.Nodes[e.folder].Names
				wantJustNode(t, what, x.fs, f, e.id)
				if free {
					freed++
				} else {
					kept++
				}
			}
		}
	}
	if freed < 50 || kept < 50 {
		t.Errorf("FsDrop freed %d nodes, and left %d", freed, kept)
	}
}

// Promises 58, 65 and 68: FsMove.
func TestFsMoveMovesTheName(t *testing.T) {
	done := 0
	for _, x := range validFss() {
		for _, c := range fsCreds() {
			for k, e := range allEntries(x.fs) {
				for at, to := range nodesOf(x.fs) {
					other := fsNames()[(k+5*at)%7]
					if (k+at)%5 == 0 {
						other = e.name
					}
					what := fmt.Sprintf("%s: FsMove of %q in %d to %q in %d by %s", x.name, e.name, e.folder, other, to, c.name)
					f, code := impl.FsMove(x.fs, c.cred, e.folder, e.name, to, other)
					if code != 0 {
						wantFailed(t, what, x.fs, f, code)
						continue
					}
					done++
					wantMoved(t, what, x.fs, f, e, to, other)
					if !mayAt(x.fs, c.cred, e.folder, 3) || !mayAt(x.fs, c.cred, to, 3) {
						t.Fatalf("%s: one may not: %s", what, fsText(x.fs))
					}
					back, code := impl.FsMove(f, c.cred, to, other, e.folder, e.name)
					wantFsCode(t, what+", and back", back, code, x.fs, 0)
				}
			}
		}
	}
	if done < 500 {
		t.Errorf("FsMove was done %d times", done)
	}
}

// wantMoved checks a file system behind FsMove.
func wantMoved(t *testing.T, what string, was, f impl.Fs, e fsEntry, to int, other string) {
	t.Helper()
	wantValidFs(t, what, f)
	wantAllLinks(t, what, f)
	wantTextsKept(t, what, was, f)
	gone := idOf(f, e.folder, e.name) == -1 || e.folder == to && e.name == other
	if !gone || idOf(f, to, other) != e.id || idOf(was, to, other) != -1 || len(allEntries(f)) != len(allEntries(was)) {
		t.Fatalf("%s: of %s\nis %s", what, fsText(was), fsText(f))
	}
	f = cloneFs(f)
	f.Nodes[e.folder].Names = was.Nodes[e.folder].Names
	f.Nodes[to].Names = was.Nodes[to].Names
	wantFs(t, what+", but for the names", f, was)
}

// Promise 59.
func TestFsReadIsThatOfBothParts(t *testing.T) {
	for _, x := range validFss() {
		for _, id := range kindsOf(x.fs, 1) {
			for _, n := range [][3]int{{0, 0, 40}, {0, 1, 1}, {0, 3, 0}, {0, 20, 20}, {1, 2, 3}, {2, 39, 39}, {5, 7, 50}, {39, 1, 1}, {40, 5, 5}, {100, 1, 1}} {
				what := fmt.Sprintf("%s: FsRead of %d, from %d on, %d and %d", x.name, id, n[0], n[1], n[2])
				first, one := impl.FsRead(x.fs, id, n[0], n[1])
				second, two := impl.FsRead(x.fs, id, n[0]+n[1], n[2])
				both, code := impl.FsRead(x.fs, id, n[0], n[1]+n[2])
				want := x.fs.Nodes[id].Text
				want = want[min(n[0], len(want)):]
				want = want[:min(n[1]+n[2], len(want))]
				if one != 0 || two != 0 || code != 0 || first+second != both || both != want || len(first) > n[1] || len(second) > n[2] {
					t.Fatalf("%s: %q and %q, and both %q, want %q", what, first, second, both, want)
				}
			}
		}
	}
}

// Promise 60.
func TestFsWriteWritesJustTheBytes(t *testing.T) {
	for _, x := range validFss() {
		for _, id := range kindsOf(x.fs, 1) {
			for _, text := range []string{"", "x", "\x00", "abc", "\xff\x00é", strings.Repeat("long", 5), strings.Repeat("most", 10), strings.Repeat("m", 41)} {
				for at := range 44 {
					what := fmt.Sprintf("%s: FsWrite of %q to %d at %d", x.name, text, id, at)
					f, code := impl.FsWrite(x.fs, id, at, text)
					if at+len(text) > 40 {
						wantFsCode(t, what, f, code, x.fs, 7)
						continue
					}
					wantValidFs(t, what, f)
					got, read := impl.FsRead(f, id, at, len(text))
					if code != 0 || read != 0 || got != text {
						t.Fatalf("%s: code %d, and FsRead told %q, %d", what, code, got, read)
					}
					wantWritten(t, what, x.fs, f, id, at, text)
				}
			}
		}
	}
}

// wantWritten checks that all bytes but those written are as they were, or zero where there were none.
func wantWritten(t *testing.T, what string, was, f impl.Fs, id, at int, text string) {
	t.Helper()
	old, now, end := was.Nodes[id].Text, f.Nodes[id].Text, at+len(text)
	if text == "" {
		end = 0
	}
	if len(now) != max(len(old), end) {
		t.Fatalf("%s: %q is %q then", what, old, now)
	}
	for k := range len(now) {
		want := byte(0)
		if k < len(old) {
			want = old[k]
		}
		if (k < at || k >= at+len(text)) && now[k] != want {
			t.Fatalf("%s: %q is %q then", what, old, now)
		}
	}
	f = cloneFs(f)
	f.Nodes[id].Text = old
	wantFs(t, what+", but for the text", f, was)
}

// Promises 61, 62 and 63.
func TestFsModeOwnAndMarkChangeJustThat(t *testing.T) {
	for k, x := range validFss() {
		for at, c := range fsCreds() {
			for _, id := range nodesOf(x.fs) {
				was := x.fs.Nodes[id]
				may, all := c.cred.User == was.Owner || c.cred.User == 0, c.cred.User == 0
				mode, owner, mark := (k*91+at*57+id*13)%512, (k+at+id)%10, (k+at+id)%2 == 0
				what := fmt.Sprintf("%s: node %d by %s", x.name, id, c.name)
				f, code := impl.FsMode(x.fs, c.cred, id, mode)
				wantChanged(t, what+": FsMode", x.fs, f, code, may, setMode(id, mode))
				f, code = impl.FsOwn(x.fs, c.cred, id, owner)
				wantChanged(t, what+": FsOwn", x.fs, f, code, all, allEdits(setOwner(id, owner), setMark(id, false)))
				f, code = impl.FsMark(x.fs, c.cred, id, mark)
				if was.Kind == 2 {
					wantFsCode(t, what+": FsMark", f, code, x.fs, 4)
				} else {
					wantChanged(t, what+": FsMark", x.fs, f, code, may, setMark(id, mark))
				}
			}
		}
	}
}

// wantChanged checks that a call made an edit if someone may, and else nothing.
func wantChanged(t *testing.T, what string, was, f impl.Fs, code int, may bool, edit fsEdit) {
	t.Helper()
	if !may {
		wantFsCode(t, what, f, code, was, 5)
		return
	}
	wantFsCode(t, what, f, code, withEdits(was, edit), 0)
	wantValidFs(t, what, f)
}

// Promise 64.
func TestFsOpenAndCloseLeaveAllAsItWas(t *testing.T) {
	for _, x := range validFss() {
		for _, id := range nodesOf(x.fs) {
			what := fmt.Sprintf("%s: FsOpen of %d", x.name, id)
			was := x.fs.Nodes[id]
			f, code := impl.FsOpen(x.fs, id, true)
			if was.Opens == 99 {
				wantFsCode(t, what, f, code, x.fs, 6)
			} else {
				wantFsCode(t, what, f, code, withEdits(x.fs, setOpens(id, was.Opens+1)), 0)
				wantValidFs(t, what, f)
				back, code := impl.FsOpen(f, id, false)
				wantFsCode(t, what+", and once less", back, code, x.fs, 0)
			}
			f, code = impl.FsOpen(x.fs, id, false)
			switch {
			case was.Opens == 0:
				wantFsCode(t, what+" once less", f, code, x.fs, 6)
			case was.Opens == 1 && was.Links == 0 && id != 0:
				wantFsCode(t, what+" once less", f, code, withEdits(x.fs, noNode(id)), 0)
			default:
				wantFsCode(t, what+" once less", f, code, withEdits(x.fs, setOpens(id, was.Opens-1)), 0)
			}
			if code == 0 {
				wantValidFs(t, what+" once less", f)
			}
		}
	}
}

// Promise 64: up to 99 times, and down to none.
func TestFsOpenUpTo99(t *testing.T) {
	for _, id := range []int{0, 2, 4, 9} {
		f := takenFs()
		for n := f.Nodes[id].Opens; n < 99; n++ {
			g, code := impl.FsOpen(f, id, true)
			wantFsCode(t, fmt.Sprintf("node %d, open %d times", id, n), g, code, withEdits(f, setOpens(id, n+1)), 0)
			f = g
		}
		g, code := impl.FsOpen(f, id, true)
		wantFsCode(t, fmt.Sprintf("node %d, open 99 times", id), g, code, f, 6)
		for n := 99; n > 1; n-- {
			g, code := impl.FsOpen(f, id, false)
			wantFsCode(t, fmt.Sprintf("node %d, open %d times, once less", id, n), g, code, withEdits(f, setOpens(id, n-1)), 0)
			f = g
		}
		want := withEdits(f, setOpens(id, 0))
		if id == 9 {
			want = withEdits(f, noNode(9))
		}
		g, code = impl.FsOpen(f, id, false)
		wantFsCode(t, fmt.Sprintf("node %d, open once, once less", id), g, code, want, 0)
	}
}

// Promise 67.
func TestFsFilesAreReadTillTheyAreClosed(t *testing.T) {
	done := 0
	for _, x := range validFss() {
		for _, c := range fsCreds() {
			for _, id := range kindsOf(x.fs, 2) {
				what := fmt.Sprintf("%s: a file in %d by %s", x.name, id, c.name)
				f, n, code := impl.FsMake(x.fs, c.cred, id, "tmp", 1, 0)
				if code != 0 {
					continue
				}
				done++
				f, open := impl.FsOpen(f, n, true)
				f, write := impl.FsWrite(f, n, 2, "kept")
				f, drop := impl.FsDrop(f, c.cred, id, "tmp")
				s, read := impl.FsRead(f, n, 0, 40)
				if open+write+drop+read != 0 || s != "\x00\x00kept" {
					t.Fatalf("%s: told %d, %d, %d and %d, and the bytes %q", what, open, write, drop, read, s)
				}
				wantValidFs(t, what, f)
				f, code = impl.FsOpen(f, n, false)
				wantFsCode(t, what+", closed", f, code, x.fs, 0)
			}
		}
	}
	if done < 50 {
		t.Errorf("%d files were made", done)
	}
}

// Promise 68.
func TestFsChangesNeedRights(t *testing.T) {
	for _, c := range fewCreds() {
		for mode := range 512 {
			f := withEdits(rightsFs(0o777, 0, 0, 0, 0), setMode(1, mode))
			_, _, made := impl.FsMake(f, c.cred, 1, "m", 2, 0)
			_, link := impl.FsLink(f, c.cred, 7, 1, "m")
			_, drop := impl.FsDrop(f, c.cred, 1, "f")
			_, out := impl.FsMove(f, c.cred, 1, "f", 9, "m")
			_, into := impl.FsMove(f, c.cred, 9, "g", 1, "m")
			_, within := impl.FsMove(f, c.cred, 1, "f", 1, "m")
			want := 5
			if mayDo(c.cred, 2, 5, mode, 3) {
				want = 0
			}
			for k, code := range []int{made, link, drop, out, into, within} {
				if code != want {
					t.Fatalf("%s: the mode %03o: call %d told the code %d, want %d", c.name, mode, k, code, want)
				}
			}
		}
	}
}

// Promise 69.
func TestFsWritesApartInEitherOrder(t *testing.T) {
	r := rand.New(rand.NewSource(69))
	for _, x := range validFss() {
		for _, id := range kindsOf(x.fs, 1) {
			for range 40 {
				at, many := r.Intn(30), 1+r.Intn(6)
				from := at + many + r.Intn(41-at-many)
				one, two := strings.Repeat("1", many), strings.Repeat("2", r.Intn(41-from))
				what := fmt.Sprintf("%s: %d: %q at %d and %q at %d", x.name, id, one, at, two, from)
				a, _ := impl.FsWrite(x.fs, id, at, one)
				a, first := impl.FsWrite(a, id, from, two)
				b, _ := impl.FsWrite(x.fs, id, from, two)
				b, second := impl.FsWrite(b, id, at, one)
				if first != 0 || second != 0 {
					t.Fatalf("%s: codes %d and %d", what, first, second)
				}
				wantFs(t, what, a, b)
				wantValidFs(t, what, a)
			}
		}
	}
}

// Promise 70: all links together are all entries, behind any calls, also such as fail.
func TestFsLinksAreEntries(t *testing.T) {
	r := rand.New(rand.NewSource(70))
	list := slices.DeleteFunc(fsFunctions(), func(x fsFunction) bool {
		return !slices.Contains([]string{"FsMake", "FsLink", "FsDrop", "FsMove"}, x.name)
	})
	for _, x := range validFss() {
		f := x.fs
		for range 60 {
			do := pick(r, list)
			a := randomArgs(r, f, do)
			got := do.call(f, a)
			what := fmt.Sprintf("%s: %s with %+v", x.name, do.name, a)
			if got.code == 1 {
				continue
			}
			wantAllLinks(t, what, got.fs)
			wantValidFs(t, what, got.fs)
			f = got.fs
		}
	}
}
