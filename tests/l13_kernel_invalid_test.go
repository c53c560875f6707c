package tests

import (
	"fmt"
	"math"
	"slices"
	"strings"
	"testing"

	"loop.example/quarterdeck/impl"
)

// kernList is kernels that are not valid, each for one cause that its name tells.
type kernList struct {
	of   impl.Kern
	name string
	list []namedKern
}

// add has the kernel with some changes, as it is.
func (l *kernList) add(name string, edits ...kernEdit) {
	l.list = append(l.list, namedKern{l.name + ": " + name, withKern(l.of, edits...)})
}

// counted has the kernel with some changes, and all that is counted anew, so that just the changes are the cause.
func (l *kernList) counted(name string, edits ...kernEdit) {
	l.list = append(l.list, namedKern{l.name + ": " + name + ", counted", countedKern(l.of, edits...)})
}

// both has it as it is and counted anew.
func (l *kernList) both(name string, edits ...kernEdit) {
	l.add(name, edits...)
	l.counted(name, edits...)
}

// busyList and sparseList are lists of a busy kernel, and of one with free processes.
func busyList(name string) *kernList {
	return &kernList{of: busyKern(), name: name}
}

func sparseList(name string) *kernList {
	return &kernList{of: kernNamed("some are gone, children of others"), name: name}
}

// invalidKerns are not valid in each way that the chapter names.
func invalidKerns() []namedKern {
	list := []namedKern{{"nothing", impl.Kern{}}}
	for _, some := range [][]namedKern{
		kernsOfOtherLengths(), kernsWithBadMemory(), kernsWithBadVfs(), kernsWithBadPipes(), kernsWithBadQueues(),
		kernsCountedAmiss(), kernsWithBadFreeFiles(), kernsWithBadEnds(), kernsWithBadNodes(), kernsWithBadFds(),
		kernsWithBadSpaces(), kernsWithBadFreeProcs(), kernsWithBadGoneProcs(), kernsWithBadCodes(), kernsWithBadParents(),
		kernsWithBadFirst(), kernsWithBadOn(), kernsWithBadStates(), kernsWithBadDirs(), kernsWithBadWho(), kernsWithOtherTasks(),
	} {
		list = append(list, some...)
	}
	return list
}

func kernsOfOtherLengths() []namedKern {
	l := &kernList{of: writtenKern(), name: "lengths"}
	l.add("no open files", func(k *impl.Kern) { k.Files = nil })
	l.add("an open file less", func(k *impl.Kern) { k.Files = k.Files[:9] })
	l.add("an open file more", func(k *impl.Kern) { k.Files = append(k.Files, impl.File{}) })
	l.add("no pipes", func(k *impl.Kern) { k.Pipes = nil })
	l.add("a pipe less", func(k *impl.Kern) { k.Pipes = k.Pipes[:2] })
	l.add("a pipe more", func(k *impl.Kern) { k.Pipes = append(k.Pipes, impl.Pipe{}) })
	l.add("no processes", func(k *impl.Kern) { k.Procs = nil })
	l.add("a process less", func(k *impl.Kern) { k.Procs = k.Procs[:4] })
	l.add("a process more", func(k *impl.Kern) { k.Procs = append(k.Procs, impl.Proc{}) })
	l.add("just one process", func(k *impl.Kern) { k.Procs = k.Procs[:1] })
	l.add("a process more, which is gone", func(k *impl.Kern) { k.Procs = append(k.Procs, procOf("gone ^0")) })
	l.add("many of each", func(k *impl.Kern) {
		k.Files, k.Pipes, k.Procs = append(k.Files, make([]impl.File, 256)...), append(k.Pipes, make([]impl.Pipe, 256)...), append(k.Procs, make([]impl.Proc, 256)...)
	})
	l.add("no memory", func(k *impl.Kern) { k.Mem = impl.Mem{} })
	l.add("no file systems", func(k *impl.Kern) { k.Vfs = impl.Vfs{} })
	l.add("no queue", func(k *impl.Kern) { k.Queue = impl.Queue{} })
	return l.list
}

// kernsWithBadMemory are on the memory of invalidMems, whose first two spaces are live but for a few.
func kernsWithBadMemory() []namedKern {
	l := &kernList{of: kernOf(kernPlan{mem: baseMem(), vfs: newVfss(), procs: []string{"ready s0", "ready s1"}}), name: "memory"}
	for _, x := range invalidMems() {
		l.add(x.name, func(k *impl.Kern) { k.Mem = cloneMem(x.mem) })
	}
	l = busyList("memory")
	l.add("Hand -1", inMem(hand(-1)))
	l.add("Hand 12", inMem(hand(12)))
	l.add("a free place with a text", inMem(ram(9, "abcd")))
	l.add("a place with a short text", inMem(swap(2, "abc")))
	l.add("a place told once less", inMem(put(4, 15, "")))
	l.add("a page in no area", inMem(put(4, 14, "f11o"), put(4, 15, "")))
	l.add("areas in no order", inMem(areas(3, area(4, 2), area(1, 2))))
	return l.list
}

func kernsWithBadVfs() []namedKern {
	l := &kernList{of: writtenKern(), name: "file systems"}
	for _, x := range invalidVfss() {
		l.add(x.name, func(k *impl.Kern) { k.Vfs = cloneVfs(x.vfs) })
		if len(x.vfs.Fss) == 2 && rangeIsValid(x.vfs.Mount, -1, 9) {
			l.both(x.name+", with process 0 in it", func(k *impl.Kern) {
				k.Vfs = cloneVfs(x.vfs)
				if len(k.Vfs.Fss[0].Nodes) > 0 {
					k.Vfs.Fss[0].Nodes[0].Opens++
				}
			})
		}
	}
	// Opens that are counted anew may mend what was not valid.
	l.list = slices.DeleteFunc(l.list, func(x namedKern) bool { return vfsIsValid(x.kern.Vfs) })
	l.add("the second one is open, not mounted", setOpensAt(at(1, 0), 1))
	for _, m := range append(greatNumbers(), -2, 0, 1, 10, 11) {
		l.add(fmt.Sprintf("mount %d", m), inVfs(setMount(m)))
	}
	for fs := range 2 {
		l.of, l.name = busyKern(), fmt.Sprintf("file system %d", fs)
		l.add("a mode of 512", inVfs(inFs(fs, setMode(2, 512))))
		l.add("an owner of 10", inVfs(inFs(fs, setOwner(0, 10))))
		l.add("no link told", inVfs(inFs(fs, setLinks(1, 0))))
		l.add("a text of 41 bytes", inVfs(inFs(fs, setText(2, flowText(0, 41)))))
		l.add("a node less", inVfs(func(v *impl.Vfs) { v.Fss[fs].Nodes = v.Fss[fs].Nodes[:9] }))
	}
	l.both("mounted nowhere", inVfs(setMount(-1)))
	l.add("mounted elsewhere", inVfs(setMount(1)))
	l.both("mounted on a file", inVfs(setMount(2)))
	return l.list
}

func kernsWithBadPipes() []namedKern {
	l := busyList("pipes")
	l.add("nine bytes", setPipe(2, func(p *impl.Pipe) { p.Text = "123456789" }))
	l.add("nine bytes in the first one", setPipe(0, func(p *impl.Pipe) { p.Text = "123456789" }))
	l.add("a pipe that is gone has a byte", setPipe(1, func(p *impl.Pipe) { p.Text = "x" }))
	l.of = kernNamed("a pipe has two writers")
	l.add("no readers, but a byte", setPipe(0, func(p *impl.Pipe) { p.Text = "x" }))
	return l.list
}

func kernsWithBadQueues() []namedKern {
	l := busyList("queue")
	for _, text := range []string{
		"91: 0/2:90 1/1:30z 2/6:0z 3/3:120z", "-1: 0/2:90 1/1:30z 2/6:0z 3/3:120z", "1000001: 0/2:1000001 1/1:30z 2/6:0z 3/3:120z",
		"60: 0/0:90 1/1:30z 2/6:0z 3/3:120z", "60: 0/2:90 1/7:30z 2/6:0z 3/3:120z", "60: 0/2:90 1/-1:30z 2/6:0z 3/3:120z",
		"60: 0/2:90 1/1:-1z 2/6:0z 3/3:120z", "60: 0/2:1000001 1/1:30z 2/6:0z 3/3:120z", "60: 0/2:90 1/1:30z 2/6:0z 3/3:1000001z",
		"60: 1/1:30z 0/2:90 2/6:0z 3/3:120z", "60: 3/3:120z 2/6:0z 1/1:30z 0/2:90",
	} {
		l.add(text, setQueue(text))
	}
	for _, n := range greatNumbers() {
		l.add(fmt.Sprintf("the weight %d", n), func(k *impl.Kern) { k.Queue.Tasks[3].Weight = n })
		l.add(fmt.Sprintf("the cost %d", n), func(k *impl.Kern) { k.Queue.Tasks[2].Cost = n })
		l.add(fmt.Sprintf("Floor %d", n), func(k *impl.Kern) { k.Queue.Floor = n })
	}
	return l.list
}

// kernsCountedAmiss have one count that is one too many or one too few.
func kernsCountedAmiss() []namedKern {
	list := []namedKern{}
	for _, name := range []string{"a busy one", "a new one", "a pipe has several readers and writers", "a node told by the mount, and all others", "all open files and all descriptors"} {
		l := &kernList{of: kernNamed(name), name: name}
		for _, more := range []int{1, -1, math.MaxInt, math.MinInt} {
			for n := range l.of.Files {
				l.add(fmt.Sprintf("%d more refer to the open file %d", more, n), func(k *impl.Kern) { k.Files[n].Refs += more })
			}
			for n := range l.of.Pipes {
				l.add(fmt.Sprintf("%d more read the pipe %d", more, n), setPipe(n, func(p *impl.Pipe) { p.Readers += more }))
				l.add(fmt.Sprintf("%d more write the pipe %d", more, n), setPipe(n, func(p *impl.Pipe) { p.Writers += more }))
			}
			for _, p := range placesOf(l.of.Vfs) {
				l.add(fmt.Sprintf("%v is open %d times more", p, more), setOpensAt(p, more))
			}
		}
		list = append(list, l.list...)
	}
	l := busyList("counts")
	l.add("readers and writers of a pipe for each other", setPipe(0, func(p *impl.Pipe) { p.Readers, p.Writers = p.Writers, p.Readers }))
	l.add("those of one pipe for those of another one", func(k *impl.Kern) { k.Pipes[1], k.Pipes[2] = k.Pipes[2], k.Pipes[1] })
	l.add("one node for another one", setOpensAt(at(0, 2), -1), setOpensAt(at(0, 6), 1))
	l.add("one node for the same one of the other file system", setOpensAt(at(0, 2), -1), setOpensAt(at(1, 2), 1))
	l.add("one open file for another one", func(k *impl.Kern) { k.Files[0].Refs--; k.Files[1].Refs++ })
	l.add("the mount is not counted", setOpensAt(at(0, 3), -1))
	l.add("a process that is gone is counted in {0, 0}", setOpensAt(at(0, 0), 1))
	return append(list, l.list...)
}

// kernsWithBadFreeFiles have an open file with Refs 0 that is not the zero value.
func kernsWithBadFreeFiles() []namedKern {
	l := busyList("free open file")
	for name, f := range map[string]impl.File{
		"at a file": {Where: at(0, 2)}, "in the second file system": {Where: at(1, 0)}, "of no pipe": {Pipe: -1}, "of no pipe, at a file": {Pipe: -1, Where: at(0, 2)},
		"of pipe 1": {Pipe: 1}, "of pipe 2": {Pipe: 2}, "of pipe 3": {Pipe: 3}, "at 1": {Pos: 1}, "at 999": {Pos: 999}, "at -1": {Pos: -1},
		"to read": {Read: true}, "to write": {Write: true}, "at the end": {End: true}, "to read a file": {Pipe: -1, Where: at(0, 2), Read: true},
		"at a great position": {Pos: math.MaxInt}, "of a great pipe": {Pipe: math.MinInt}, "in a great file system": {Where: at(math.MaxInt, 0)}, "at a great node": {Where: at(0, math.MinInt)},
	} {
		l.both(name, func(k *impl.Kern) { k.Files[7] = f })
	}
	slices.SortFunc(l.list, byName)
	return l.list
}

// byName is the order of kernels by their names.
func byName(a, b namedKern) int {
	if a.name < b.name {
		return -1
	}
	return 1
}

// kernsWithBadEnds have an end of a pipe that is not valid.
func kernsWithBadEnds() []namedKern {
	l := busyList("end of a pipe")
	for _, text := range []string{"rw |0", "- |0", "re |0", "we |0", "rwe |0", "e |0", "r |0 @1", "w |0 @999", "r |0 @-1", "r 0.1 |0", "w 0.2 |0", "r 1.0 |0", "r |3", "w |3", "r |-2", "w |-2", "r |10", "- |1", "rw |1", "rw |2"} {
		l.both("file 2 is "+text, setFile(2, text))
		l.both("file 6 is "+text, setFile(6, text))
	}
	for _, n := range greatNumbers() {
		l.both(fmt.Sprintf("pipe %d", n), setFile(2, fmt.Sprintf("r |%d", n)))
		l.both(fmt.Sprintf("position %d", n), setFile(2, fmt.Sprintf("r |0 @%d", n)))
		l.both(fmt.Sprintf("file system %d", n), setFile(2, fmt.Sprintf("r %d.0 |0", n)))
		l.both(fmt.Sprintf("node %d", n), setFile(2, fmt.Sprintf("r 0.%d |0", n)))
	}
	return l.list
}

// kernsWithBadNodes have an open file of a file or a folder that is not valid.
func kernsWithBadNodes() []namedKern {
	l := busyList("open file or folder")
	for _, text := range []string{"rw 0.1", "w 0.1", "- 0.1", "re 0.1", "we 0.1", "rwe 0.1", "e 0.1", "rw 0.0", "w 1.0", "re 1.0", "rw 0.3"} {
		l.both("the folder "+text, setFile(1, text))
		l.both("instead of a file the folder "+text, setFile(9, text))
	}
	for _, pos := range append(greatNumbers(), -1, -2, 1000, 1001, 1<<32, 1<<32+5) {
		l.both(fmt.Sprintf("a file at %d", pos), setFile(0, fmt.Sprintf("r 0.2 @%d", pos)))
		l.both(fmt.Sprintf("a file to write at the end at %d", pos), setFile(5, fmt.Sprintf("we 1.2 @%d", pos)))
		l.both(fmt.Sprintf("a folder at %d", pos), setFile(1, fmt.Sprintf("r 0.1 @%d", pos)))
	}
	for _, p := range noPlaces(l.of.Vfs) {
		l.both(fmt.Sprintf("at %v", p), func(k *impl.Kern) { k.Files[0].Where = p })
	}
	for _, n := range greatNumbers() {
		l.both(fmt.Sprintf("in the file system %d", n), func(k *impl.Kern) { k.Files[0].Where.Fs = n })
		l.both(fmt.Sprintf("at the node %d", n), func(k *impl.Kern) { k.Files[0].Where.Id = n })
	}
	l.of = kernNamed("a file, told by one descriptor")
	l.both("of the second file system, which is mounted nowhere", setFile(0, "r 1.2"), inVfs(setMount(-1)))
	return l.list
}

// kernsWithBadFds have descriptors that are no open file, or not as many as there have to be.
func kernsWithBadFds() []namedKern {
	l := busyList("descriptors")
	for id, fd := range []int{4, 1, 2, 0} {
		l.both(fmt.Sprintf("one of process %d is free", id), setFd(id, fd, 7))
		for _, file := range append(greatNumbers(), -2, -3, 10, 11, 256, 1<<32) {
			l.both(fmt.Sprintf("one of process %d is %d", id, file), setFd(id, fd, file))
		}
		l.both(fmt.Sprintf("one of process %d is missing", id), setProc(id, func(p *impl.Proc) { p.Fds = slices.Delete(p.Fds, fd, fd+1) }))
		l.both(fmt.Sprintf("one more of process %d", id), setProc(id, func(p *impl.Proc) { p.Fds = append(p.Fds, -1) }))
		l.both(fmt.Sprintf("one more of process %d, which is a file", id), setProc(id, func(p *impl.Proc) { p.Fds = append(p.Fds, 0) }))
	}
	l.of = kernNamed("two are ready")
	l.add("none", setProc(1, func(p *impl.Proc) { p.Fds = nil }))
	l.add("four", setProc(0, func(p *impl.Proc) { p.Fds = p.Fds[:4] }))
	l.add("all are free", setProc(0, func(p *impl.Proc) { p.Fds = make([]int, 5) }))
	return l.list
}

// kernsWithBadSpaces have a live space that is not that of just one process.
func kernsWithBadSpaces() []namedKern {
	l := busyList("spaces")
	dead := func(who int) kernEdit {
		return func(k *impl.Kern) {
			k.Mem = edited(k.Mem, space(who, impl.Space{}))
			emptyUntold(&k.Mem)
		}
	}
	has := func(id, who int) kernEdit { return setProc(id, func(p *impl.Proc) { p.Space = who }) }
	l.add("two have one, one is that of nobody", has(1, 0))
	l.add("two have one", has(1, 0), dead(4))
	l.add("the last two have one", has(2, 3), dead(2))
	l.add("all have one", has(1, 0), has(2, 0), has(3, 0), dead(2), dead(3), dead(4))
	l.add("one is that of nobody", func(k *impl.Kern) { k.Mem.Spaces[1] = liveSpace(nil, nil) })
	l.add("one is not live", dead(4))
	l.add("one is not live, and another one is that of nobody", has(1, 1))
	for _, who := range append(greatNumbers(), -1, -2, 1, 5, 6, 1<<32+4) {
		l.add(fmt.Sprintf("one is %d", who), has(1, who), dead(4))
		l.add(fmt.Sprintf("the first one is %d", who), has(0, who), dead(0))
	}
	l.of = kernNamed("the others are gone")
	l.add("that of one that is gone is live", func(k *impl.Kern) { k.Mem.Spaces[0] = liveSpace(nil, nil) })
	return l.list
}

// notZero are changes of which each makes a process that is free or gone have something.
func notZero() map[string]func(p *impl.Proc) {
	edits := map[string]func(p *impl.Proc){
		"is of user 1":          func(p *impl.Proc) { p.Who.User = 1 },
		"is really of user 1":   func(p *impl.Proc) { p.Who.Real = 1 },
		"is in a group":         func(p *impl.Proc) { p.Who.Groups = []int{0} },
		"has descriptors":       func(p *impl.Proc) { p.Fds = fdsOf("-----") },
		"has one descriptor":    func(p *impl.Proc) { p.Fds = fdsOf("-") },
		"has descriptors of 0":  func(p *impl.Proc) { p.Fds = []int{0, 0, 0, 0, 0} },
		"has signals":           func(p *impl.Proc) { p.Sigs = sigsOf(noneOf, noneOf, noneOf) },
		"has signals here":      func(p *impl.Proc) { p.Sigs.Here = make([]bool, 8) },
		"has blocked signals":   func(p *impl.Proc) { p.Sigs.Block = make([]bool, 8) },
		"has what signals do":   func(p *impl.Proc) { p.Sigs.Does = make([]int, 8) },
		"has one signal here":   func(p *impl.Proc) { p.Sigs.Here = []bool{false} },
		"is in a folder":        func(p *impl.Proc) { p.Dir = at(0, 1) },
		"is in the second one":  func(p *impl.Proc) { p.Dir = at(1, 0) },
		"is where nothing is":   func(p *impl.Proc) { p.Dir = at(-1, 0) },
		"does not wait":         func(p *impl.Proc) { p.On = -1 },
		"waits for a child":     func(p *impl.Proc) { p.On = -2 },
		"waits on pipe 1":       func(p *impl.Proc) { p.On = 1 },
		"has the space 1":       func(p *impl.Proc) { p.Space = 1 },
		"has the space -2":      func(p *impl.Proc) { p.Space = -2 },
		"has the space 5":       func(p *impl.Proc) { p.Space = 5 },
		"has a live space, too": func(p *impl.Proc) { p.Space = 4 },
	}
	for _, n := range greatNumbers() {
		edits[fmt.Sprintf("has the space %d", n)] = func(p *impl.Proc) { p.Space = n }
		edits[fmt.Sprintf("is of user %d", n)] = func(p *impl.Proc) { p.Who.User = n }
		edits[fmt.Sprintf("is really of user %d", n)] = func(p *impl.Proc) { p.Who.Real = n }
		edits[fmt.Sprintf("waits on pipe %d", n)] = func(p *impl.Proc) { p.On = n }
		edits[fmt.Sprintf("is at the node %d", n)] = func(p *impl.Proc) { p.Dir.Id = n }
		edits[fmt.Sprintf("is in the file system %d", n)] = func(p *impl.Proc) { p.Dir.Fs = n }
	}
	return edits
}

func kernsWithBadFreeProcs() []namedKern {
	l := sparseList("free process")
	for name, edit := range notZero() {
		l.both(name, setProc(3, edit))
	}
	l.add("has the space -1", setProc(3, func(p *impl.Proc) { p.Space = -1 }))
	for _, n := range append(greatNumbers(), -1, 1, 2, 3, 4) {
		l.add(fmt.Sprintf("has the parent %d", n), setProc(3, func(p *impl.Proc) { p.Parent = n }))
		l.add(fmt.Sprintf("has the code %d", n), setProc(3, func(p *impl.Proc) { p.Code = n }))
	}
	l.add("is as one that is ready", setProc(3, func(p *impl.Proc) { *p = procOf("ready s1"); p.State = 0 }))
	l.add("is as one that is gone", setProc(3, func(p *impl.Proc) { *p = procOf("gone ^0"); p.State = 0 }))
	slices.SortFunc(l.list, byName)
	return l.list
}

func kernsWithBadGoneProcs() []namedKern {
	l := sparseList("process that is gone")
	for name, edit := range notZero() {
		l.both(name, setProc(4, edit))
	}
	l.add("has the space 0", setProc(4, func(p *impl.Proc) { p.Space = 0 }))
	l.add("is as one that was ready", setProc(4, func(p *impl.Proc) { *p = procOf("ready ^1 s1"); p.State = 4 }))
	slices.SortFunc(l.list, byName)
	return l.list
}

func kernsWithBadCodes() []namedKern {
	l := busyList("code")
	for _, code := range append(greatNumbers(), -1, -999, 1000, 1001, 1<<32, 1<<32+7) {
		l.add(fmt.Sprintf("%d of one that is gone", code), setProc(4, func(p *impl.Proc) { p.Code = code }))
	}
	for id := range 4 {
		for _, code := range append(greatNumbers(), -1, 1, 7, 900, 999, 1000) {
			l.add(fmt.Sprintf("%d of process %d, which is alive", code, id), setProc(id, func(p *impl.Proc) { p.Code = code }))
		}
	}
	return l.list
}

// setParents gives processes from 1 on other parents.
func setParents(parents ...int) kernEdit {
	return func(k *impl.Kern) {
		for n, parent := range parents {
			k.Procs[n+1].Parent = parent
		}
	}
}

func kernsWithBadParents() []namedKern {
	l := busyList("parents")
	for _, list := range [][]int{{4, 0, 2, 2}, {0, 4, 2, 2}, {0, 0, 4, 2}, {0, 4, 4, 2}} {
		l.add(fmt.Sprintf("one that is gone: %v", list), setParents(list...))
	}
	for _, list := range [][]int{
		{1, 0, 2, 2}, {0, 2, 0, 0}, {0, 2, 2, 2}, {0, 0, 3, 2}, {0, 0, 2, 4}, {2, 1, 0, 0}, {2, 1, 2, 2}, {0, 3, 2, 0}, {3, 0, 1, 0},
		{2, 3, 1, 0}, {3, 1, 2, 0}, {3, 1, 2, 1}, {1, 2, 3, 0}, {1, 1, 1, 1}, {2, 2, 2, 2}, {0, 0, 3, 3},
	} {
		l.add(fmt.Sprintf("a round: %v", list), setParents(list...))
	}
	for id := 1; id < 5; id++ {
		for _, parent := range append(greatNumbers(), -1, -2, -5, 5, 6, 10, 1<<32, 256) {
			l.add(fmt.Sprintf("%d of process %d", parent, id), setProc(id, func(p *impl.Proc) { p.Parent = parent }))
		}
	}
	l = &kernList{of: kernNamed("those between are free"), name: "parents", list: l.list}
	for _, parent := range []int{1, 2, 3, 4} {
		l.add(fmt.Sprintf("%d of process 3, the others being free", parent), setProc(3, func(p *impl.Proc) { p.Parent = parent }))
	}
	l.of = kernNamed("some are gone, children of others")
	for _, parent := range []int{2, 3, 4} {
		l.add(fmt.Sprintf("%d of process 4, which is gone", parent), setProc(4, func(p *impl.Proc) { p.Parent = parent }))
		l.add(fmt.Sprintf("%d of process 1, which is ready", parent), setProc(1, func(p *impl.Proc) { p.Parent = parent }))
	}
	l.of = kernNamed("all are ready, each one the parent of the next")
	for _, list := range [][]int{{1, 1, 2, 3}, {4, 1, 2, 3}, {2, 1, 2, 3}, {0, 2, 2, 3}, {0, 4, 2, 3}, {0, 1, 4, 3}, {0, 1, 2, 4}} {
		l.add(fmt.Sprintf("a round of five: %v", list), setParents(list...))
	}
	return l.list
}

// kernsWithBadFirst have a process 0 that is not alive, or not its own parent.
func kernsWithBadFirst() []namedKern {
	l := busyList("process 0")
	for _, parent := range append(greatNumbers(), -1, 1, 2, 3, 4, 5) {
		l.add(fmt.Sprintf("has the parent %d", parent), setProc(0, func(p *impl.Proc) { p.Parent = parent }))
	}
	for name, texts := range map[string][]string{
		"is gone, as all are":                           {"gone ^0", "gone ^0", "gone ^0"},
		"is gone, alone":                                {"gone ^0"},
		"is free, as all are":                           {},
		"is gone, another one is its own parent":        {"gone ^0", "ready ^1 s0"},
		"is gone, the child of another one":             {"gone ^1", "ready ^1 s0"},
		"is free, another one is its own parent":        {"", "ready ^1 s0"},
		"is gone, a child of it is ready":               {"gone ^0", "ready ^0 s0"},
		"is free, a child of it is ready":               {"", "ready ^0 s0"},
		"is free, a child of it is gone":                {"", "gone ^0"},
		"is the child of its child":                     {"ready ^1 s0", "ready ^0 s1"},
		"is the child of the last one":                  {"ready ^4 s0", "", "", "", "ready ^0 s1"},
		"is below another one that is its own parent":   {"ready ^1 s0", "ready ^1 s1"},
		"is below one that is gone":                     {"ready ^1 s0", "gone ^0"},
		"has a parent that is free":                     {"ready ^1 s0"},
		"is in a round of three, and nobody is outside": {"ready ^2 s0", "ready ^0 s1", "ready ^1 s2"},
	} {
		living := []int{}
		for _, text := range texts {
			if p := procOf(text); isAlive(p) {
				living = append(living, p.Space)
			}
		}
		l.list = append(l.list, namedKern{"process 0 " + name, kernOf(kernPlan{mem: emptyMem(living...), vfs: newVfss(), procs: texts})})
	}
	slices.SortFunc(l.list, byName)
	return l.list
}

// kernsWithBadOn have a process that waits for what is not there, or one that does not wait, and tells for what.
func kernsWithBadOn() []namedKern {
	l := busyList("On")
	set := func(id, on int) {
		l.add(fmt.Sprintf("%d of process %d", on, id), setProc(id, func(p *impl.Proc) { p.On = on }))
	}
	for _, on := range append(greatNumbers(), -1, -3, -4, 3, 4, 10, 1<<32, 1<<32-2) {
		set(1, on)
		set(2, on)
	}
	for _, on := range append(greatNumbers(), -3, -2, 0, 1, 2, 3) {
		set(0, on)
		set(3, on)
	}
	return l.list
}

func kernsWithBadStates() []namedKern {
	l := busyList("states")
	for id := range 5 {
		for _, state := range append(greatNumbers(), -1, -2, 5, 6, 256, 257, 1<<32, 1<<32+1) {
			l.both(fmt.Sprintf("%d of process %d", state, id), setProc(id, func(p *impl.Proc) { p.State = state }))
		}
		for state := range 5 {
			if state != l.of.Procs[id].State {
				l.both(fmt.Sprintf("process %d is just told to be of the state %d", id, state), setProc(id, func(p *impl.Proc) { p.State = state }))
			}
		}
	}
	return l.list
}

// kernsWithBadDirs have a process whose folder is none.
func kernsWithBadDirs() []namedKern {
	l := busyList("folders of processes")
	for id := range 4 {
		set := func(p impl.Place) {
			l.both(fmt.Sprintf("%v of process %d", p, id), setProc(id, func(proc *impl.Proc) { proc.Dir = p }))
		}
		set(at(0, 2))
		set(at(0, 6))
		set(at(1, 2))
		for _, p := range noPlaces(l.of.Vfs) {
			set(p)
		}
		for _, n := range greatNumbers() {
			set(at(n, 0))
			set(at(0, n))
			set(at(1, n))
		}
	}
	l.of = kernNamed("a new one")
	l.both("in the second file system, which is mounted nowhere", setProc(0, func(p *impl.Proc) { p.Dir = at(1, 0) }))
	return l.list
}

// kernsWithBadWho have a process that is nobody who may be, or whose signals are not valid.
func kernsWithBadWho() []namedKern {
	l := busyList("who")
	for _, x := range invalidCreds() {
		for id := range 4 {
			l.add(fmt.Sprintf("process %d is %s", id, x.name), setProc(id, func(p *impl.Proc) { p.Who = cloneCred(x.cred) }))
		}
	}
	for n, x := range invalidSigs() {
		if n%7 == 0 {
			l.add(fmt.Sprintf("process %d has signals: %s", n%4, x.name), setProc(n%4, func(p *impl.Proc) { p.Sigs = cloneSigs(x.sigs) }))
		}
	}
	for id := range 4 {
		l.add(fmt.Sprintf("process %d has no signals", id), setProc(id, func(p *impl.Proc) { p.Sigs = impl.Sigs{} }))
		l.add(fmt.Sprintf("process %d blocks SigKill", id), setProc(id, func(p *impl.Proc) { p.Sigs.Block[0] = true }))
	}
	return l.list
}

// kernsWithOtherTasks have a queue that has not just the processes that are alive.
func kernsWithOtherTasks() []namedKern {
	l := busyList("tasks")
	for _, text := range []string{
		"60:", "60: 0/2:90", "60: 1/1:30z 2/6:0z 3/3:120z", "60: 0/2:90 2/6:0z 3/3:120z", "60: 0/2:90 1/1:30z 3/3:120z", "60: 0/2:90 1/1:30z 2/6:0z",
		"60: 0/2:90 1/1:30z 2/6:0z 3/3:120z 4/1:60", "60: 0/2:90 1/1:30z 2/6:0z 3/3:120z 4/1:0z", "60: 0/2:90 1/1:30z 2/6:0z 3/3:120z 5/1:0z",
		"60: 0/2:90 1/1:30z 2/6:0z 3/3:120z 99/1:60", "60: 0/2:90 1/1:30z 2/6:0z 3/3:120z 4/1:0z 5/1:0z",
		"60: 0/2:90 1/1:30z 2/6:0z 4/3:120z", "60: 0/2:90 1/1:30z 2/6:0z 5/3:120z", "60: 0/2:90 1/1:30z 3/6:0z 4/3:120z", "60: 1/2:90 2/1:30z 3/6:0z 4/3:120z",
		"60: 0/2:90z 1/1:30z 2/6:0z 3/3:120z", "60: 0/2:90 1/1:60 2/6:0z 3/3:120z", "60: 0/2:90 1/1:30z 2/6:60 3/3:120z", "60: 0/2:90 1/1:30z 2/6:0z 3/3:120", "60: 0/2:90z 1/1:60 2/6:0z 3/3:120z",
	} {
		l.add(text, setQueue(text))
	}
	for _, n := range greatNumbers() {
		l.add(fmt.Sprintf("the task %d", n), func(k *impl.Kern) { k.Queue.Tasks[3].Id = n })
	}
	l.of = kernNamed("a new one")
	for _, text := range []string{"0:", "0: 0/1:0z", "0: 1/1:0", "0: 0/1:0 1/1:0", "0: 0/1:0 1/1:0z"} {
		l.add("of a new kernel: "+text, setQueue(text))
	}
	return l.list
}

// Each way in which a kernel is not valid, alone.
func TestKernsThatAreNotValid(t *testing.T) {
	for _, x := range validKerns() {
		if !kernIsValid(x.kern) {
			t.Errorf("%s is not valid, and others are made of it", x.name)
		}
	}
	for _, x := range invalidKerns() {
		if strings.HasPrefix(x.name, "spaces: ") && !memIsValid(x.kern.Mem) {
			t.Errorf("%s: the memory is not valid, either", x.name)
		}
		if kernIsValid(x.kern) {
			t.Errorf("%s is valid: %s", x.name, kernText(x.kern))
		}
		wantTold(t, x.name, x.kern, nothingTold())
	}
}
