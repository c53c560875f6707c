package tests

import (
	"fmt"
	"maps"
	"math"
	"slices"
	"strings"
	"testing"

	"loop.example/quarterdeck/impl"
)

// spoilt are copies of a file system, each changed by one edit of some.
func spoilt(f impl.Fs, edits map[string]fsEdit) []namedFs {
	list := []namedFs{}
	for _, name := range slices.Sorted(maps.Keys(edits)) {
		list = append(list, namedFs{name, withEdits(f, edits[name])})
	}
	return list
}

// allEdits is edits as one.
func allEdits(edits ...fsEdit) fsEdit {
	return func(f *impl.Fs) {
		for _, edit := range edits {
			edit(f)
		}
	}
}

// invalidFss has file systems that are not valid, mostly for just one cause.
func invalidFss() []namedFs {
	list := append(invalidLengths(), invalidFreeNodes()...)
	list = append(list, invalidNumbers()...)
	list = append(list, invalidFirstFolders()...)
	list = append(list, invalidFiles()...)
	list = append(list, invalidFolders()...)
	list = append(list, invalidNamesOfNodes()...)
	return append(list, invalidRounds()...)
}

func invalidLengths() []namedFs {
	home := homeFs()
	return []namedFs{
		{"nothing", impl.Fs{}},
		{"no nodes", impl.Fs{Nodes: []impl.Inode{}}},
		{"one node", impl.Fs{Nodes: []impl.Inode{folder(0o755, 0, 0)}}},
		{"9 nodes", impl.Fs{Nodes: home.Nodes[:9]}},
		{"11 nodes", impl.Fs{Nodes: append(homeFs().Nodes, impl.Inode{})}},
		{"11 nodes, the last one open", impl.Fs{Nodes: append(homeFs().Nodes, opened(file(0o644, 2, 2, ""), 1))}},
		{"20 nodes", impl.Fs{Nodes: append(homeFs().Nodes, make([]impl.Inode, 10)...)}},
	}
}

// invalidFreeNodes have a free node of which something is told.
func invalidFreeNodes() []namedFs {
	return append(spoilt(homeFs(), map[string]fsEdit{
		"a free node with a mode":      setMode(8, 1),
		"a free node with an owner":    setOwner(9, 1),
		"a free node with a group":     setGroup(8, 1),
		"a free node with a link":      setLinks(9, 1),
		"a free node that is open":     setOpens(8, 1),
		"a free node with a Mark":      setMark(9, true),
		"a free node with a text":      setText(8, "x"),
		"a free node with a zero byte": setText(8, "\x00"),
		"a free node with an entry":    allEdits(setNames(9, "z:2"), setLinks(2, 3)),
		"a file made free, but for its kind": func(f *impl.Fs) {
			f.Nodes[7].Kind = 0
		},
		"a folder made free, but for its kind": func(f *impl.Fs) {
			f.Nodes[4].Kind = 0
		},
	}), withNumbers("a file of the kind", noKinds(), func(n int) fsEdit {
		return func(f *impl.Fs) { f.Nodes[2].Kind = n }
	})...)
}

// withNumbers are homeFs with each number that something may not have.
func withNumbers(name string, numbers []int, edit func(n int) fsEdit) []namedFs {
	list := []namedFs{}
	for _, n := range numbers {
		list = append(list, namedFs{fmt.Sprintf("%s %d", name, n), withEdits(homeFs(), edit(n))})
	}
	return list
}

// invalidNumbers have a number out of its range, of a file, a folder, an open file without a name and the first folder.
func invalidNumbers() []namedFs {
	kinds := slices.DeleteFunc(noKinds(), func(n int) bool { return n == 0 })
	list := withNumbers("a node of zeros of the kind", kinds, func(n int) fsEdit {
		return setNode(8, impl.Inode{Kind: n}, 0)
	})
	for _, id := range []int{0, 2, 4, 7} {
		of := fmt.Sprintf(" of node %d", id)
		list = append(list, withNumbers("mode"+of, noModes(), func(n int) fsEdit { return setMode(id, n) })...)
		list = append(list, withNumbers("owner"+of, noUsers(), func(n int) fsEdit { return setOwner(id, n) })...)
		list = append(list, withNumbers("group"+of, noUsers(), func(n int) fsEdit { return setGroup(id, n) })...)
		opens := []int{math.MinInt, -256, -1, 100, 101, 1<<32 + 1, math.MaxInt}
		list = append(list, withNumbers("opens"+of, opens, func(n int) fsEdit { return setOpens(id, n) })...)
		links := []int{math.MinInt, -1, 3, 9, 99, 100, 1<<32 + 1, math.MaxInt}
		list = append(list, withNumbers("links"+of, links, func(n int) fsEdit { return setLinks(id, n) })...)
	}
	return list
}

func invalidFirstFolders() []namedFs {
	return append(spoilt(homeFs(), map[string]fsEdit{
		"the first folder with a link":                 setLinks(0, 1),
		"an entry of the first folder to itself":       setNames(0, "a:1", "b:2", "bc:2", "cde:3", "o:0"),
		"an entry to the first folder":                 setNames(6, "o:0"),
		"an entry to the first folder, which tells it": allEdits(setNames(6, "o:0"), setLinks(0, 1)),
		"an entry of the first folder to itself, told": allEdits(setNames(0, "a:1", "b:2", "bc:2", "cde:3", "o:0"), setLinks(0, 1)),
		"the first folder with a text":                 setText(0, "x"),
		"the first folder with a Mark":                 setMark(0, true),
		"the first folder with -1 links":               setLinks(0, -1),
	}),
		namedFs{"all nodes free", impl.Fs{Nodes: make([]impl.Inode, 10)}},
		namedFs{"just a file, which is open", diskOf(opened(file(0o755, 0, 0, ""), 1))},
		namedFs{"the first node free, and others open", diskOf(impl.Inode{}, opened(file(0o755, 0, 0, ""), 1))},
		namedFs{"a first file", diskOf(opened(file(0o755, 0, 0, ""), 1), opened(file(0o755, 0, 0, ""), 1))},
		namedFs{"a first file below a folder", diskOf(file(0o755, 0, 0, ""), folder(0o755, 0, 0, "a:0"))},
		namedFs{"the first folder behind a free node", diskOf(impl.Inode{}, folder(0o755, 0, 0))},
	)
}

func invalidFiles() []namedFs {
	return spoilt(homeFs(), map[string]fsEdit{
		"a text of 41 bytes":                          setText(2, strings.Repeat("t", 41)),
		"a text of 1000 bytes":                        setText(7, strings.Repeat("t", 1000)),
		"a text of 40 letters that are 41 bytes":      setText(2, strings.Repeat("t", 39)+"é"),
		"a file with an entry":                        allEdits(setNames(2, "z:5"), setLinks(5, 3)),
		"a file with an entry that is not counted":    setNames(2, "z:5"),
		"a file with an entry to itself":              allEdits(setNames(2, "z:2"), setLinks(2, 3)),
		"a file with one link more":                   setLinks(2, 3),
		"a file with one link less":                   setLinks(2, 1),
		"a file with links untold":                    setLinks(2, 0),
		"an open file with one link more":             setLinks(7, 1),
		"a file with 99 links, and two entries to it": setLinks(2, 99),
		"a file without a link that is not open":      setOpens(7, 0),
		"a new file without a link that is not open":  setNode(9, file(0o644, 2, 2, ""), 0),
		"a file whose entries are gone":               allEdits(setNames(0, "a:1", "cde:3"), setLinks(2, 0)),
		"a file whose entries are gone, untold":       setNames(0, "a:1", "cde:3"),
		"an open file whose entries are gone, untold": allEdits(setNames(0, "a:1", "cde:3"), setOpens(2, 5)),
	})
}

func invalidFolders() []namedFs {
	return spoilt(homeFs(), map[string]fsEdit{
		"a folder with a text":                        setText(4, "x"),
		"a folder with a zero byte":                   setText(1, "\x00"),
		"a folder with a Mark":                        setMark(4, true),
		"an open folder with a Mark":                  setMark(3, true),
		"a folder with 7 entries":                     allEdits(setNames(4, "a:2", "b:2", "c:2", "d:2", "e:2", "f:2", "g:2"), setLinks(2, 9)),
		"a folder with no link told":                  setLinks(4, 0),
		"a folder with two links told":                setLinks(4, 2),
		"a folder with two entries to it":             allEdits(setNames(6, "z:4"), setLinks(4, 2)),
		"a folder with two entries to it, one told":   setNames(6, "z:4"),
		"a folder with two entries in one folder":     allEdits(setNames(1, "e:4", "f:5", "g:4"), setLinks(4, 2)),
		"a folder without a link":                     setNode(8, folder(0o755, 2, 2), 0),
		"a folder without a link, but one told":       setNode(8, folder(0o755, 2, 2), 1),
		"an open folder without a link":               setNode(8, opened(folder(0o755, 2, 2), 1), 0),
		"an open folder without a link, but one told": setNode(8, opened(folder(0o755, 2, 2), 1), 1),
		"a folder without a link, with a file":        allEdits(setNode(8, folder(0o755, 2, 2, "z:2"), 0), setLinks(2, 3)),
		"a folder below one without a link":           allEdits(setNode(8, folder(0o755, 2, 2, "z:9"), 0), setNode(9, folder(0o755, 2, 2), 1)),
	})
}

// invalidNamesOfNodes have a name that is none, names in another order, or an entry that leads to none.
func invalidNamesOfNodes() []namedFs {
	list := spoilt(homeFs(), map[string]fsEdit{
		"two names in the other order":           setNames(1, "f:5", "e:4"),
		"the last two names in the other order":  setNames(0, "a:1", "b:2", "cde:3", "bc:2"),
		"the first two names in the other order": setNames(0, "b:2", "a:1", "bc:2", "cde:3"),
		"a longer name ahead of its beginning":   setNames(0, "a:1", "bc:2", "b:2", "cde:3"),
		"one name twice, of one file":            setNames(0, "a:1", "b:2", "b:2", "cde:3"),
		"one name twice, of two nodes":           setNames(1, "e:4", "e:5"),
		"one name twice, apart":                  setNames(0, "b:1", "b:2", "bc:2", "b:3"),
		"an entry to a free node":                setNames(4, "z:9"),
		"an entry to a free node, told":          allEdits(setNames(4, "z:9"), setLinks(9, 1)),
	})
	for _, s := range noNames() {
		list = append(list,
			namedFs{fmt.Sprintf("the name %q", s), withEdits(homeFs(), setNames(4, s+":2"), setLinks(2, 3))},
			namedFs{fmt.Sprintf("the name %q of a folder", s), withEdits(homeFs(), setNames(6, s+":8"), setNode(8, folder(0o755, 2, 2), 1))})
	}
	for _, id := range noIds() {
		list = append(list, namedFs{fmt.Sprintf("an entry to %d", id), withEdits(homeFs(), setNames(4, fmt.Sprintf("z:%d", id)))})
	}
	return list
}

// invalidRounds have folders each of which has one link, apart from the first folder.
func invalidRounds() []namedFs {
	dir := func(names ...string) impl.Inode { return folder(0o777, 2, 2, names...) }
	none := impl.Inode{}
	return []namedFs{
		{"a folder in itself", diskOf(dir(), dir("a:1"))},
		{"the last folder in itself", diskOf(dir(), none, none, none, none, none, none, none, none, dir("a:9"))},
		{"a folder in itself, open", diskOf(dir(), opened(dir("a:1"), 1))},
		{"a round of two", diskOf(dir(), dir("a:2"), dir("a:1"))},
		{"a round of two, beside others", diskOf(dir("a:3", "b:4"), dir("a:2"), dir("a:1"), dir(), file(0o644, 2, 2, ""))},
		{"a round of three", diskOf(dir("a:4"), dir("a:2"), dir("a:3"), dir("a:1"), dir())},
		{"a round of two, with a folder below", diskOf(dir(), dir("a:2", "b:3"), dir("a:1"), dir("a:4"), dir())},
		{"a round of two, with a file", diskOf(dir(), dir("a:2", "b:3"), dir("a:1", "b:3"), file(0o644, 2, 2, ""))},
		{"a round with a file that the first folder has, too", diskOf(dir("a:3"), dir("a:2", "b:3"), dir("a:1"), file(0o644, 2, 2, ""))},
		{"two rounds", diskOf(dir(), dir("a:2"), dir("a:1"), dir("a:4"), dir("a:3"))},
		{"a round of nine", diskOf(dir(), dir("a:2"), dir("a:3"), dir("a:4"), dir("a:5"), dir("a:6"), dir("a:7"), dir("a:8"), dir("a:9"), dir("a:1"))},
		{"a round of eight and a folder", diskOf(dir("a:9"), dir("a:2"), dir("a:3"), dir("a:4"), dir("a:5"), dir("a:6"), dir("a:7"), dir("a:8"), dir("a:1"), dir())},
	}
}

// Each function is told nothing by an argument that is not valid, whatever the node is, also where all else is valid.
func TestFsCallsOfInvalidArguments(t *testing.T) {
	for _, x := range []namedFs{{"home", homeFs()}, {"no free node", takenFs()}, {"a new one", newFs(0, 0o777)}, {"open files", openFs()}} {
		for _, f := range fsFunctions() {
			for id := range 10 {
				a := someArgs()
				a.id = id
				if x.fs.Nodes[id].Kind != 0 {
					badArgs(t, fmt.Sprintf("%s: %s of node %d", x.name, f.name, id), x.fs, f, a)
				}
			}
		}
	}
}

// badArgs checks a function with each of its arguments made one that is not valid.
func badArgs(t *testing.T, what string, f impl.Fs, x fsFunction, a fsArgs) {
	t.Helper()
	bad := func(of string, with any, change func(b *fsArgs)) {
		t.Helper()
		b := a
		change(&b)
		wantBad(t, fmt.Sprintf("%s, %s %v", what, of, with), x.call(f, b))
	}
	numbers := func(of string, list []int, field func(b *fsArgs) *int) {
		t.Helper()
		if x.asksFor(of) {
			for _, n := range list {
				bad(of, n, func(b *fsArgs) { *field(b) = n })
			}
		}
	}
	for _, id := range notThere(f) {
		bad("number", id, func(b *fsArgs) { b.id = id })
	}
	numbers("other", notThere(f), func(b *fsArgs) *int { return &b.other })
	numbers("kind", noKinds(), func(b *fsArgs) *int { return &b.kind })
	numbers("mode", noModes(), func(b *fsArgs) *int { return &b.mode })
	numbers("owner", noUsers(), func(b *fsArgs) *int { return &b.owner })
	numbers("at", noPlacesOfBytes(), func(b *fsArgs) *int { return &b.at })
	numbers("many", noPlacesOfBytes(), func(b *fsArgs) *int { return &b.many })
	for _, s := range noNames() {
		if x.asksFor("name") {
			bad("name", s, func(b *fsArgs) { b.name = s })
		}
		if x.asksFor("as") {
			bad("other name", s, func(b *fsArgs) { b.as = s })
		}
	}
	for _, c := range invalidCreds() {
		if x.asksFor("cred") {
			bad("someone", c.name, func(b *fsArgs) { b.cred = c.cred })
		}
	}
}

// A file system that is not valid gives nothing, whatever is asked.
func TestFsCallsOfInvalidFileSystems(t *testing.T) {
	for _, x := range invalidFss() {
		for _, f := range fsFunctions() {
			for _, id := range []int{-1, 0, 1, 2, 4, 7, 8, 9, 10} {
				a := someArgs()
				a.id = id
				wantBad(t, fmt.Sprintf("%s: %s of node %d", x.name, f.name, id), f.call(x.fs, a))
			}
			if f.asksFor("flag") {
				a := someArgs()
				a.flag = false
				wantBad(t, fmt.Sprintf("%s: %s once less", x.name, f.name), f.call(x.fs, a))
			}
		}
	}
}

// wantBad checks that a call told nothing, and that something was not valid.
func wantBad(t *testing.T, what string, got fsAnswer) {
	t.Helper()
	wantAnswer(t, what, got, fsAnswered(impl.Fs{}, 1))
}
