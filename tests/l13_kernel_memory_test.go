package tests

import (
	"fmt"
	"reflect"
	"slices"
	"testing"

	"loop.example/quarterdeck/impl"
)

// kernCall is a call of a function of chapter 13 that takes a kernel, told by a text.
type kernCall struct {
	name string
	do   func(k impl.Kern)
}

func kernCalls() []kernCall {
	return []kernCall{
		{"KernOk", func(k impl.Kern) { impl.KernOk(k) }},
		{"KernAlive", func(k impl.Kern) { impl.KernAlive(k) }},
		{"KernUse", func(k impl.Kern) { impl.KernUse(k) }},
		{"KernNext", func(k impl.Kern) { impl.KernNext(k) }},
	}
}

// roomyNumbers is the same list with marks in the capacity behind it, which a call must leave alone, too.
func roomyNumbers(list []int) []int {
	n := append(slices.Clone(list), -7, -8)
	return n[:len(list)]
}

// roomyProc has marks behind each list of a process.
func roomyProc(p impl.Proc) impl.Proc {
	p.Who, p.Fds, p.Sigs = roomyCred(p.Who), roomyNumbers(p.Fds), roomySigs(p.Sigs)
	return p
}

// roomyKern is the same kernel with marks in the capacity behind each list.
func roomyKern(k impl.Kern) impl.Kern {
	n := impl.Kern{Mem: roomyMem(k.Mem), Vfs: roomyVfs(k.Vfs), Queue: roomyQueue(k.Queue)}
	n.Files = append(slices.Clone(k.Files), impl.File{Refs: 1, Pipe: -1, Pos: 71}, impl.File{})[:len(k.Files)]
	n.Pipes = append(slices.Clone(k.Pipes), pipeOf("left", 1, 1), impl.Pipe{})[:len(k.Pipes)]
	for _, p := range k.Procs {
		n.Procs = append(n.Procs, roomyProc(p))
	}
	n.Procs = append(n.Procs, roomyProc(procOf("ready s3")), impl.Proc{})[:len(k.Procs)]
	return n
}

// wholeKern has all that lists have up to their capacity, in new memory.
func wholeKern(k impl.Kern) impl.Kern {
	n := impl.Kern{Mem: wholeMem(k.Mem), Vfs: wholeVfs(k.Vfs), Files: k.Files[:cap(k.Files)], Pipes: k.Pipes[:cap(k.Pipes)], Queue: wholeQueue(k.Queue)}
	for _, p := range k.Procs[:cap(k.Procs)] {
		p.Who, p.Fds, p.Sigs = wholeCred(p.Who), p.Fds[:cap(p.Fds)], wholeSigs(p.Sigs)
		n.Procs = append(n.Procs, p)
	}
	return cloneKern(n)
}

// scribbleKern overwrites all that a kernel has, up to the capacity of its lists.
func scribbleKern(k impl.Kern) {
	scribbleMem(k.Mem)
	scribbleVfs(k.Vfs)
	scribbleQueue(k.Queue)
	files, pipes, procs := k.Files[:cap(k.Files)], k.Pipes[:cap(k.Pipes)], k.Procs[:cap(k.Procs)]
	for n := range files {
		files[n] = impl.File{Refs: -7, Pipe: -7}
	}
	for n := range pipes {
		pipes[n] = pipeOf("other", -7, -7)
	}
	for n, p := range procs {
		scribbleCred(p.Who)
		scribbleIds(p.Fds)
		scribbleSigs(p.Sigs)
		procs[n] = impl.Proc{State: -7, Fds: []int{-7}}
	}
}

// kernsForMemory are kernels with which memory is looked at: those that are valid, and some that are not.
func kernsForMemory(t *testing.T) []namedKern {
	t.Helper()
	list := append(validKerns(), randomKerns(t, 4, 20)...)
	for n, x := range invalidKerns() {
		if n%29 == 0 {
			list = append(list, x)
		}
	}
	return list
}

func TestKernCallsDoNotPanic(t *testing.T) {
	try := func(what string, k impl.Kern, c kernCall) {
		defer func() {
			if r := recover(); r != nil {
				t.Errorf("%s of %s panicked: %v", c.name, what, r)
			}
		}()
		c.do(k)
	}
	all := func(what string, k impl.Kern) {
		for _, c := range kernCalls() {
			try(what, k, c)
		}
	}
	for _, x := range allKerns(t) {
		all(x.name, x.kern)
	}
	for _, name := range []string{"a busy one", "some are gone, children of others"} {
		eachChange(kernNamed(name), func(what string, k impl.Kern) { all(name+", where "+what, k) })
	}
	// Parts of kernels that fit nothing of each other.
	busy, fresh := busyKern(), impl.KernNew()
	for n := range 1 << 6 {
		k := busy
		for part, put := range []func(){
			func() { k.Mem = fresh.Mem }, func() { k.Vfs = fresh.Vfs }, func() { k.Files = nil },
			func() { k.Pipes = []impl.Pipe{} }, func() { k.Procs = k.Procs[2:] }, func() { k.Queue = impl.Queue{} },
		} {
			if n>>part&1 == 1 {
				put()
			}
		}
		all(fmt.Sprintf("a kernel of parts %d", n), k)
	}
}

func TestKernArgumentsAreNotChanged(t *testing.T) {
	for _, x := range kernsForMemory(t) {
		k := roomyKern(x.kern)
		was := wholeKern(k)
		for _, c := range kernCalls() {
			c.do(k)
			wantKern(t, c.name+" of "+x.name+" changed its argument", wholeKern(k), was)
		}
		wantTold(t, x.name+", with room behind its lists", k, toldOf(x.kern))
	}
}

// All that is told of a kernel are numbers and bools; just KernNew returns what has lists.
func TestKernResultsArePlain(t *testing.T) {
	for _, f := range []any{impl.KernOk, impl.KernAlive, impl.KernUse, impl.KernNext} {
		of := reflect.TypeOf(f)
		for n := range of.NumOut() {
			if !plain(of.Out(n)) {
				t.Errorf("the result %d of %v is not plain", n, of)
			}
		}
	}
}

// listsOf are all lists of some kernels, by what they are lists of.
type listsOf struct {
	files  [][]impl.File
	pipes  [][]impl.Pipe
	procs  [][]impl.Proc
	tasks  [][]impl.Task
	spaces [][]impl.Space
	areas  [][]impl.Area
	slots  [][]impl.Slot
	fss    [][]impl.Fs
	nodes  [][]impl.Inode
	names  [][]impl.Entry
	texts  [][]string
	ints   [][]int
	bools  [][]bool
}

// add has all lists of one more kernel, up to the capacity of those in which they are.
func (l *listsOf) add(k impl.Kern) {
	l.files, l.pipes = append(l.files, k.Files), append(l.pipes, k.Pipes)
	l.procs, l.tasks = append(l.procs, k.Procs), append(l.tasks, k.Queue.Tasks)
	l.spaces, l.fss = append(l.spaces, k.Mem.Spaces), append(l.fss, k.Vfs.Fss)
	l.texts = append(l.texts, k.Mem.Ram.Text, k.Mem.Swap.Text)
	l.ints = append(l.ints, k.Mem.Ram.Refs, k.Mem.Swap.Refs)
	for _, s := range k.Mem.Spaces[:cap(k.Mem.Spaces)] {
		l.areas, l.slots = append(l.areas, s.Areas), append(l.slots, s.Slots)
	}
	for _, f := range k.Vfs.Fss[:cap(k.Vfs.Fss)] {
		l.nodes = append(l.nodes, f.Nodes)
		for _, i := range f.Nodes[:cap(f.Nodes)] {
			l.names = append(l.names, i.Names)
		}
	}
	for _, p := range k.Procs[:cap(k.Procs)] {
		l.ints = append(l.ints, p.Who.Groups, p.Fds, p.Sigs.Does)
		l.bools = append(l.bools, p.Sigs.Here, p.Sigs.Block)
	}
}

// apart tells whether no two of the lists share memory.
func (l *listsOf) apart() bool {
	parts := listsApart(l.files...) && listsApart(l.pipes...) && listsApart(l.procs...) && listsApart(l.tasks...)
	memory := listsApart(l.spaces...) && listsApart(l.areas...) && listsApart(l.slots...) && listsApart(l.texts...)
	disks := listsApart(l.fss...) && listsApart(l.nodes...) && listsApart(l.names...)
	return parts && memory && disks && listsApart(l.ints...) && listsApart(l.bools...)
}

// No two lists of a new kernel are in the same memory, nor is one in another new kernel.
func TestKernNewListsAreApart(t *testing.T) {
	lists := &listsOf{}
	for range 3 {
		lists.add(impl.KernNew())
	}
	if !lists.apart() {
		t.Errorf("lists of new kernels share memory")
	}
	// So that a list that is shared would be found.
	one := impl.KernNew()
	shared := &listsOf{}
	shared.add(one)
	shared.add(withKern(one, func(k *impl.Kern) { k.Procs[0].Fds = one.Procs[0].Fds }))
	if shared.apart() {
		t.Errorf("lists that are shared are not found")
	}
}

func TestKernNewsAreNotInEachOther(t *testing.T) {
	one, two := impl.KernNew(), impl.KernNew()
	scribbleKern(one)
	wantKern(t, "a new kernel behind another one was changed", two, writtenKern())
	wantKern(t, "a new kernel made behind that", impl.KernNew(), writtenKern())
	scribbleKern(two)
	wantKern(t, "a new kernel made behind both", impl.KernNew(), writtenKern())
}

// What is told of a kernel does not depend on lists that share memory with each other.
func TestKernsWithSharedLists(t *testing.T) {
	k := kernNamed("all were stopped")
	k.Vfs.Fss[1] = withEdits(k.Vfs.Fss[0], setOpens(0, 0))
	none, zero := make([]bool, 8), fdsOf("-----")
	for id := range k.Procs {
		k.Procs[id].Fds = zero
		k.Procs[id].Sigs.Here, k.Procs[id].Sigs.Block = none, none
	}
	k.Mem.Swap = k.Mem.Ram
	for who := range k.Mem.Spaces {
		k.Mem.Spaces[who].Slots = k.Mem.Spaces[0].Slots
	}
	wantTold(t, "a kernel whose lists share memory", k, toldCase(t, "all were stopped"))
	if fmt.Sprint(none, zero) != fmt.Sprint(make([]bool, 8), fdsOf("-----")) {
		t.Errorf("lists that were shared are %v and %v", none, zero)
	}
	files := kernNamed("a new one")
	files.Files = files.Files[:10:10]
	files.Pipes = make([]impl.Pipe, 3, 99)
	wantTold(t, "a kernel with other capacities", files, toldCase(t, "a new one"))
}

// Lists that are empty and such that are nil are the same.
func TestKernEmptyAndNilLists(t *testing.T) {
	for _, x := range kernsForMemory(t) {
		for _, list := range []func(t reflect.Type) reflect.Value{reflect.Zero, func(t reflect.Type) reflect.Value { return reflect.MakeSlice(t, 0, 3) }} {
			k := cloneKern(x.kern)
			eachPart(reflect.ValueOf(&k).Elem(), "", func(_ string, v reflect.Value) {
				if v.Kind() == reflect.Slice && v.Len() == 0 {
					v.Set(list(v.Type()))
				}
			})
			wantTold(t, x.name+", with its empty lists being others", k, toldOf(x.kern))
		}
	}
}

// The same kernel is told the same each time.
func TestKernCallsKeepNothing(t *testing.T) {
	list := kernsForMemory(t)
	was := []kernTold{}
	for _, x := range list {
		was = append(was, toldOf(x.kern))
	}
	for n := range list {
		at := len(list) - 1 - n
		wantTold(t, list[at].name+" again", list[at].kern, was[at])
	}
}
