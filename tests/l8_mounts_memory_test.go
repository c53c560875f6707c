package tests

import (
	"fmt"
	"math/rand"
	"slices"
	"strings"
	"testing"

	"loop.example/quarterdeck/impl"
)

// vfsAnswer is what a call of chapter 8 returns, as far as it returns it.
type vfsAnswer struct {
	vfs   impl.Vfs
	place impl.Place
	text  string
	code  int
	ok    bool
}

// vfsCall is a call of a function of chapter 8 that has file systems as an argument, told by a text.
type vfsCall struct {
	name string
	do   func(v impl.Vfs) vfsAnswer
}

// walkCalls are the calls of a place, a path and someone.
func walkCalls(c impl.Cred, p impl.Place, path string) []vfsCall {
	of := fmt.Sprintf(" of %q from %v by %v", path, p, c)
	return []vfsCall{
		{"VfsWalk" + of, func(v impl.Vfs) vfsAnswer {
			to, code := impl.VfsWalk(v, c, p, path)
			return vfsAnswer{place: to, code: code}
		}},
		{"VfsParent" + of, func(v impl.Vfs) vfsAnswer {
			to, step, code := impl.VfsParent(v, c, p, path)
			return vfsAnswer{place: to, text: step, code: code}
		}},
		{"VfsPath" + of, func(v impl.Vfs) vfsAnswer {
			s, ok := impl.VfsPath(v, p)
			return vfsAnswer{text: s, ok: ok}
		}},
	}
}

// mountCalls are the calls of a mount by someone.
func mountCalls(c impl.Cred, ids ...int) []vfsCall {
	list := []vfsCall{{fmt.Sprintf("VfsUnmount by %v", c), func(v impl.Vfs) vfsAnswer {
		w, code := impl.VfsUnmount(v, c)
		return vfsAnswer{vfs: w, code: code}
	}}}
	for _, id := range ids {
		list = append(list, vfsCall{fmt.Sprintf("VfsMount on %d by %v", id, c), func(v impl.Vfs) vfsAnswer {
			w, code := impl.VfsMount(v, c, id)
			return vfsAnswer{vfs: w, code: code}
		}})
	}
	return list
}

// changeCalls are those that return file systems, by someone who may, by others, and by who is not valid.
func changeCalls() []vfsCall {
	list := append(mountCalls(user0, -1, 0, 1, 2, 3, 4, 9, 10), mountCalls(user2, 3)...)
	return append(list, mountCalls(someone(0, 0, 5, 3), 3)...)
}

// vfsCalls calls each function that has file systems as an argument, with arguments of which some are valid and some not.
func vfsCalls() []vfsCall {
	list := append(changeCalls(), vfsCall{"VfsOk", func(v impl.Vfs) vfsAnswer { return vfsAnswer{ok: impl.VfsOk(v)} }})
	for _, p := range []impl.Place{at(0, 0), at(0, 1), at(0, 3), at(0, 7), at(1, 0), at(1, 3), at(2, 0)} {
		for _, path := range []string{"", "/m/c/d", "..", "a/b", "/no", "c", "//"} {
			list = append(list, walkCalls(user2, p, path)...)
		}
	}
	return list
}

// roomyVfs is the same with marks in the capacity behind each list, which a call must leave alone, too.
func roomyVfs(v impl.Vfs) impl.Vfs {
	n := impl.Vfs{Mount: v.Mount}
	for _, f := range v.Fss {
		n.Fss = append(n.Fss, roomyFs(f))
	}
	fss := append(n.Fss, roomyFs(homeFs()), impl.Fs{})
	n.Fss = fss[:len(v.Fss)]
	return n
}

// wholeVfs has all that lists have up to their capacity.
func wholeVfs(v impl.Vfs) impl.Vfs {
	n := impl.Vfs{Mount: v.Mount}
	for _, f := range v.Fss[:cap(v.Fss)] {
		n.Fss = append(n.Fss, wholeFs(f))
	}
	return n
}

// scribbleVfs overwrites all that file systems have, up to the capacity of their lists.
func scribbleVfs(v impl.Vfs) {
	fss := v.Fss[:cap(v.Fss)]
	for k, f := range fss {
		scribbleFs(f)
		fss[k] = impl.Fs{Nodes: []impl.Inode{file(-7, -7, -7, "other")}}
	}
}

// vfssToTry has each written one, and some of those to which walks lead and of those that are not valid.
func vfssToTry() []namedVfs {
	list := append(writtenVfss(), walkedVfss(1)...)
	for k, x := range invalidVfss() {
		if k < 24 || k%31 == 0 {
			list = append(list, x)
		}
	}
	return list
}

// wantVfsAnswer checks an answer.
func wantVfsAnswer(t *testing.T, what string, got, want vfsAnswer) {
	t.Helper()
	if got.place != want.place || got.text != want.text || got.code != want.code || got.ok != want.ok {
		t.Fatalf("%s: told %v, %q, the code %d, %v, want %v, %q, %d, %v", what, got.place, got.text, got.code, got.ok, want.place, want.text, want.code, want.ok)
	}
	wantVfs(t, what, got.vfs, want.vfs)
}

func TestVfsCallsDoNotPanic(t *testing.T) {
	try := func(name string, do func()) {
		defer func() {
			if r := recover(); r != nil {
				t.Errorf("%s panicked: %v", name, r)
			}
		}()
		do()
	}
	r := rand.New(rand.NewSource(1))
	paths := append(append(oddPaths(), noPaths()...), strings.Repeat("/", 10000), strings.Repeat("a/", 10000))
	for _, path := range paths {
		try(path, func() { impl.PathSteps(path) })
	}
	numbers := append(append(noIds(), greatNumbers()...), 0, 1, 2, 3, 9)
	creds := append(invalidCreds(), fewCreds()...)
	for _, x := range allVfss() {
		calls := vfsCalls()
		for range 10 {
			c := pick(r, creds).cred
			calls = append(calls, walkCalls(c, at(pick(r, numbers), pick(r, numbers)), pick(r, paths))...)
			calls = append(calls, walkCalls(user0, at(r.Intn(2), r.Intn(10)), pick(r, paths))...)
			calls = append(calls, mountCalls(c, pick(r, numbers))...)
		}
		for _, c := range calls {
			try(c.name+" of "+x.name, func() { c.do(x.vfs) })
		}
	}
}

func TestVfsArgumentsAreNotChanged(t *testing.T) {
	for _, x := range vfssToTry() {
		v := roomyVfs(x.vfs)
		was := cloneVfs(wholeVfs(v))
		for _, c := range vfsCalls() {
			c.do(v)
			wantVfs(t, c.name+" of "+x.name+" changed its argument", wholeVfs(v), was)
		}
	}
	for _, x := range fewCreds() {
		c := roomyCred(x.cred)
		was := cloneCred(wholeCred(c))
		for _, call := range append(mountCalls(c, 1, 2), walkCalls(c, at(0, 1), "/m/c/..")...) {
			call.do(mounted(townFs(), 3, hillFs()))
			call.do(apart(townFs(), hillFs()))
			wantCred(t, call.name+" changed its argument", wholeCred(c), was)
		}
	}
}

func TestVfsResultsShareNothingWithArguments(t *testing.T) {
	for _, x := range vfssToTry() {
		for _, c := range changeCalls() {
			v := roomyVfs(x.vfs)
			was := cloneVfs(wholeVfs(v))
			scribbleVfs(c.do(v).vfs)
			wantVfs(t, c.name+" of "+x.name+": the argument is in the result", wholeVfs(v), was)
			got := c.do(v).vfs
			told := cloneVfs(got)
			scribbleVfs(v)
			wantVfs(t, c.name+" of "+x.name+": the result is in the argument", got, told)
		}
	}
}

// Results are the same each time, though names are kept in maps, and are not in each other.
func TestVfsResultsShareNothingWithEachOther(t *testing.T) {
	for _, x := range vfssToTry() {
		for _, c := range vfsCalls() {
			one, two := c.do(x.vfs), c.do(x.vfs)
			told := cloneVfs(two.vfs)
			wantVfsAnswer(t, c.name+" of "+x.name+" again", one, two)
			scribbleVfs(one.vfs)
			wantVfs(t, c.name+" of "+x.name+": a result is in another one", two.vfs, told)
		}
	}
}

// No two lists of one result are in the same memory, nor is one in a list of an argument.
func TestVfsListsOfAResultAreApart(t *testing.T) {
	for _, x := range vfssToTry() {
		for _, c := range changeCalls() {
			got := c.do(x.vfs).vfs
			names, nodes := [][]impl.Entry{}, [][]impl.Inode{}
			for _, f := range append(slices.Clone(got.Fss[:cap(got.Fss)]), x.vfs.Fss...) {
				nodes = append(nodes, f.Nodes)
				for _, i := range f.Nodes[:cap(f.Nodes)] {
					names = append(names, i.Names)
				}
			}
			if !listsApart(names...) || !listsApart(nodes...) || !listsApart(got.Fss, x.vfs.Fss) {
				t.Fatalf("%s of %s: lists of the result share memory", c.name, x.name)
			}
		}
	}
}

// Steps that PathSteps told are not in those that it tells later.
func TestPathStepsShareNothing(t *testing.T) {
	for _, path := range oddPaths() {
		_, one, _ := impl.PathSteps(path)
		_, two, _ := impl.PathSteps(path)
		want := slices.Clone(two)
		one = one[:cap(one)]
		for k := range one {
			one[k] = "other"
		}
		_, three, _ := impl.PathSteps(path)
		if !slices.Equal(two, want) || !slices.Equal(three, want) || !listsApart(one, two, three) {
			t.Errorf("PathSteps of %q: %q and %q, want %q", path, two, three, want)
		}
	}
}

// Lists that are empty and such that are nil are the same.
func TestVfsEmptyAndNilLists(t *testing.T) {
	for _, x := range validVfss() {
		empty, none := cloneVfs(x.vfs), cloneVfs(x.vfs)
		for fs, f := range x.vfs.Fss {
			for id, i := range f.Nodes {
				if len(i.Names) == 0 {
					empty.Fss[fs].Nodes[id].Names, none.Fss[fs].Nodes[id].Names = []impl.Entry{}, nil
				}
			}
		}
		for _, c := range vfsCalls() {
			wantVfsAnswer(t, c.name+" of "+x.name+", with empty lists and without", c.do(empty), c.do(none))
		}
	}
	v := mounted(townFs(), 3, hillFs())
	with, without := impl.Cred{User: 2, Real: 2, Groups: []int{}}, impl.Cred{User: 2, Real: 2}
	for k, c := range append(mountCalls(with, 3), walkCalls(with, at(0, 1), "/m/c")...) {
		other := append(mountCalls(without, 3), walkCalls(without, at(0, 1), "/m/c")...)[k]
		wantVfsAnswer(t, c.name+" with empty groups and without", c.do(v), other.do(v))
	}
	if impl.VfsOk(impl.Vfs{Fss: []impl.Fs{}, Mount: -1}) || impl.VfsOk(impl.Vfs{Mount: -1}) {
		t.Errorf("VfsOk of no file systems is true")
	}
}
