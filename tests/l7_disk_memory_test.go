package tests

import (
	"fmt"
	"math/rand"
	"slices"
	"testing"

	"loop.example/quarterdeck/impl"
)

// fsCall is a call of a function of chapter 7, told by a text.
type fsCall struct {
	name string
	do   func(f impl.Fs) fsAnswer
}

// fsCalls calls each function that has a file system as an argument, with arguments of which some are valid and some not.
func fsCalls(f impl.Fs) []fsCall {
	list := []fsCall{{"FsOk", func(f impl.Fs) fsAnswer { impl.FsOk(f); return fsAnswer{} }}}
	for _, x := range fsFunctions() {
		for _, a := range fsArgsToTry(f, x) {
			list = append(list, fsCall{fmt.Sprintf("%s with %+v", x.name, a), func(f impl.Fs) fsAnswer { return x.call(f, a) }})
		}
	}
	return list
}

// fsArgsToTry are arguments of which each code of a function is told, as far as that may be.
func fsArgsToTry(f impl.Fs, x fsFunction) []fsArgs {
	list := []fsArgs{someArgs()}
	r := rand.New(rand.NewSource(int64(len(x.name))))
	if len(f.Nodes) == 10 {
		for range 12 {
			list = append(list, randomArgs(r, f, x))
		}
		for _, id := range nodesOf(f) {
			a := someArgs()
			a.id, a.name, a.as = id, "a", "n"
			a.other = pick(r, nodesOf(f))
			less := a
			less.flag = false
			list = append(list, a, less)
		}
	}
	bad := someArgs()
	bad.id, bad.other, bad.cred = 10, -1, someone(2, 2, 5, 3)
	return append(list, bad)
}

// roomyFs is the same file system with marks in the capacity behind each list, which a call must leave alone, too.
func roomyFs(f impl.Fs) impl.Fs {
	n := impl.Fs{}
	for _, i := range f.Nodes {
		names := append(slices.Clone(i.Names), entriesOf("mark:71", "mark:72", "mark:73")...)
		i.Names = names[:len(i.Names)]
		n.Nodes = append(n.Nodes, i)
	}
	nodes := append(n.Nodes, folder(71, 71, 71, "mark:71"), file(72, 72, 72, "mark"))
	n.Nodes = nodes[:len(f.Nodes)]
	return n
}

// wholeFs has all that lists have up to their capacity.
func wholeFs(f impl.Fs) impl.Fs {
	n := impl.Fs{}
	for _, i := range f.Nodes[:cap(f.Nodes)] {
		i.Names = i.Names[:cap(i.Names)]
		n.Nodes = append(n.Nodes, i)
	}
	return n
}

// scribbleFs overwrites all that a file system has, up to the capacity of its lists.
func scribbleFs(f impl.Fs) {
	nodes := f.Nodes[:cap(f.Nodes)]
	for id, i := range nodes {
		names := i.Names[:cap(i.Names)]
		for k := range names {
			names[k] = impl.Entry{Name: "other", Id: -7}
		}
		nodes[id] = impl.Inode{Kind: -7, Mode: -7, Links: -7, Mark: !i.Mark, Text: "other", Names: entriesOf("other:-7")}
	}
}

// fssToTry has each written file system, and some of those to which walks lead and of those that are not valid.
func fssToTry() []namedFs {
	list := writtenFss()
	for seed := range 4 {
		list = append(list, walkedFss(int64(seed))...)
	}
	for k, x := range invalidFss() {
		if k%7 == 0 {
			list = append(list, x)
		}
	}
	return list
}

func TestFsCallsDoNotPanic(t *testing.T) {
	try := func(name string, do func()) {
		defer func() {
			if r := recover(); r != nil {
				t.Errorf("%s panicked: %v", name, r)
			}
		}()
		do()
	}
	odd := oddArgs()
	for _, x := range allFss() {
		try("FsOk of "+x.name, func() { impl.FsOk(x.fs) })
		for _, f := range fsFunctions() {
			for k, a := range odd {
				try(fmt.Sprintf("%s with the arguments %d of %s", f.name, k, x.name), func() { f.call(x.fs, a) })
			}
		}
	}
	for _, n := range append(noUsers(), 0, 9) {
		for _, mode := range append(noModes(), 0, 511) {
			try("FsNew", func() { impl.FsNew(n, mode) })
		}
	}
}

// oddArgs are arguments with some that are not valid, also several at once.
func oddArgs() []fsArgs {
	list, r := []fsArgs{}, rand.New(rand.NewSource(1))
	for _, id := range append(noIds(), 0, 1, 2, 5, 9) {
		a := someArgs()
		for range 3 {
			spoilArgs(r, &a)
		}
		a.id, a.other = id, pick(r, append(noIds(), 0, 1, 3, 4))
		list = append(list, a)
		b := someArgs()
		b.id, b.at, b.many, b.name = id, pick(r, greatPlaces()), pick(r, greatPlaces()), pick(r, []string{"a", "b", "d", "f"})
		list = append(list, b, fsArgs{id: id})
	}
	return list
}

func TestFsArgumentsAreNotChanged(t *testing.T) {
	for _, x := range fssToTry() {
		f := roomyFs(x.fs)
		was := cloneFs(wholeFs(f))
		for _, c := range fsCalls(x.fs) {
			c.do(f)
			wantFs(t, c.name+" of "+x.name+" changed its argument", wholeFs(f), was)
		}
	}
	for _, x := range fewCreds() {
		c := roomyCred(x.cred)
		was := cloneCred(wholeCred(c))
		for _, f := range fsFunctions() {
			a := someArgs()
			a.cred, a.name = c, "n"
			f.call(homeFs(), a)
			wantCred(t, f.name+" by "+x.name+" changed its argument", wholeCred(c), was)
		}
	}
}

func TestFsResultsShareNothingWithArguments(t *testing.T) {
	for _, x := range fssToTry() {
		for _, c := range fsCalls(x.fs) {
			f := roomyFs(x.fs)
			was := cloneFs(wholeFs(f))
			scribbleFs(c.do(f).fs)
			wantFs(t, c.name+" of "+x.name+": the argument is in the result", wholeFs(f), was)
			got := c.do(f).fs
			told := cloneFs(got)
			scribbleFs(f)
			wantFs(t, c.name+" of "+x.name+": the result is in the argument", got, told)
		}
	}
}

// Results are the same each time, though names are kept in maps, and are not in each other.
func TestFsResultsShareNothingWithEachOther(t *testing.T) {
	for _, x := range fssToTry() {
		for _, c := range fsCalls(x.fs) {
			one, two := c.do(x.fs), c.do(x.fs)
			told := cloneFs(two.fs)
			wantAnswer(t, c.name+" of "+x.name+" again", one, two)
			scribbleFs(one.fs)
			wantFs(t, c.name+" of "+x.name+": a result is in another one", two.fs, told)
		}
	}
	one, _ := impl.FsNew(3, 493)
	scribbleFs(one)
	two, _ := impl.FsNew(3, 493)
	wantFs(t, "FsNew behind another one was changed", two, newFs(3, 493))
}

// No two lists of one result are in the same memory, nor is one in the list of an argument.
func TestFsListsOfAResultAreApart(t *testing.T) {
	check := func(what string, f, was impl.Fs) {
		lists := [][]impl.Entry{}
		for _, i := range append(slices.Clone(f.Nodes[:cap(f.Nodes)]), was.Nodes...) {
			lists = append(lists, i.Names)
		}
		if !listsApart(lists...) || !listsApart(f.Nodes, was.Nodes) {
			t.Fatalf("%s: lists of the result share memory", what)
		}
	}
	for _, x := range fssToTry() {
		for _, c := range fsCalls(x.fs) {
			check(c.name+" of "+x.name, c.do(x.fs).fs, x.fs)
		}
	}
	f, _ := impl.FsNew(0, 493)
	check("FsNew", f, impl.Fs{})
}

// Names and groups that are empty and such that are nil are the same.
func TestFsEmptyAndNilLists(t *testing.T) {
	for _, x := range validFss() {
		empty, none := cloneFs(x.fs), cloneFs(x.fs)
		for id, i := range x.fs.Nodes {
			if len(i.Names) == 0 {
				empty.Nodes[id].Names, none.Nodes[id].Names = []impl.Entry{}, nil
			}
		}
		for _, c := range fsCalls(x.fs) {
			wantAnswer(t, c.name+" of "+x.name+", with empty lists and without", c.do(empty), c.do(none))
		}
	}
	for _, f := range fsFunctions() {
		a, b := someArgs(), someArgs()
		a.name, b.name = "n", "n"
		a.cred, b.cred = impl.Cred{User: 3, Real: 3}, impl.Cred{User: 3, Real: 3, Groups: []int{}}
		wantAnswer(t, f.name+" without groups and with empty ones", f.call(homeFs(), a), f.call(homeFs(), b))
	}
	if impl.FsOk(impl.Fs{Nodes: []impl.Inode{}}) || impl.FsOk(impl.Fs{}) {
		t.Errorf("FsOk of no nodes is true")
	}
}
