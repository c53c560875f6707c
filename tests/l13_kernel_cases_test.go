package tests

import (
	"fmt"
	"testing"

	"loop.example/quarterdeck/impl"
)

func TestKernConstants(t *testing.T) {
	if impl.ProcMax != 5 || impl.FileMax != 10 || impl.PipeMax != 3 || impl.FdMax != 5 {
		t.Errorf("the greatest numbers are %d, %d, %d and %d", impl.ProcMax, impl.FileMax, impl.PipeMax, impl.FdMax)
	}
	if impl.ProcReady != 1 || impl.ProcWaits != 2 || impl.ProcStops != 3 || impl.ProcGone != 4 {
		t.Errorf("the states are %d, %d, %d and %d", impl.ProcReady, impl.ProcWaits, impl.ProcStops, impl.ProcGone)
	}
}

// writtenKern is a new kernel, all of it written out.
func writtenKern() impl.Kern {
	pages := func() impl.Pages { return impl.Pages{Text: make([]string, 12), Refs: make([]int, 12)} }
	disk := func(opens int) impl.Fs {
		return impl.Fs{Nodes: []impl.Inode{{Kind: 2, Mode: 493, Opens: opens}, {}, {}, {}, {}, {}, {}, {}, {}, {}}}
	}
	return impl.Kern{
		Mem:   impl.Mem{Ram: pages(), Swap: pages(), Spaces: []impl.Space{{Live: true, Slots: make([]impl.Slot, 16)}, {}, {}, {}, {}}},
		Vfs:   impl.Vfs{Fss: []impl.Fs{disk(1), disk(0)}, Mount: -1},
		Files: []impl.File{{}, {}, {}, {}, {}, {}, {}, {}, {}, {}},
		Pipes: []impl.Pipe{{}, {}, {}},
		Procs: []impl.Proc{{
			State: 1,
			Fds:   []int{-1, -1, -1, -1, -1},
			Sigs:  impl.Sigs{Here: make([]bool, 8), Block: make([]bool, 8), Does: make([]int, 8)},
			On:    -1,
		}, {}, {}, {}, {}},
		Queue: impl.Queue{Tasks: []impl.Task{{Id: 0, Weight: 1, Cost: 0, Ready: true}}},
	}
}

func TestKernNewIsWrittenOut(t *testing.T) {
	wantKern(t, "KernNew", impl.KernNew(), writtenKern())
	wantTold(t, "a new kernel that is written out", writtenKern(), kernTold{ok: true, alive: 1, next: 0})
}

// A new kernel has the parts that the functions of the earlier chapters make.
func TestKernNewHasNewParts(t *testing.T) {
	k := impl.KernNew()
	m, who, _ := impl.MemMake(impl.MemNew())
	wantMem(t, "memory of KernNew", k.Mem, m)
	if k.Procs[0].Space != who {
		t.Errorf("process 0 has the space %d, want %d", k.Procs[0].Space, who)
	}
	first, _ := impl.FsNew(0, 0o755)
	second, _ := impl.FsNew(0, 0o755)
	first, _ = impl.FsOpen(first, 0, true)
	wantVfs(t, "file systems of KernNew", k.Vfs, apart(first, second))
	q, _ := impl.QueueAdd(impl.Queue{}, 0, 1)
	wantQueue(t, "queue of KernNew", k.Queue, q)
	wantSigs(t, "signals of process 0", k.Procs[0].Sigs, impl.SigsNew())
}

// toldCases tell of each of validKerns how many are alive, the places of memory and of swap, the open files and the pipes, and who is next.
func toldCases() map[string]string {
	return map[string]string{
		"a new one":  "1, 0 0 0 0, 0",
		"a busy one": "4, 4 3 9 2, 0",
		"process 0 waits for a child, without one":                 "1, 0 0 0 0, -1",
		"process 0 was stopped":                                    "1, 0 0 0 0, -1",
		"process 0 waits on the pipe 2, which it reads and writes": "1, 0 0 2 1, -1",
		"process 0 waits on a pipe of which it has no end":         "2, 0 0 2 1, 1",
		"process 0 waits on a pipe that is gone":                   "1, 0 0 0 0, -1",
		"process 0 of another user, in a folder":                   "1, 0 0 0 0, 0",
		"two are ready":                                            "2, 0 0 0 0, 0",
		"two are ready, the second one is next":                    "2, 0 0 0 0, 1",
		"just the last one is ready":                               "5, 0 0 0 0, 4",
		"all are ready, each one the parent of the next":           "5, 0 0 0 0, 0",
		"all are ready, the last one below the first, and so on":   "5, 0 0 0 0, 0",
		"all wait for a child":                                     "5, 0 0 0 0, -1",
		"all were stopped":                                         "5, 0 0 0 0, -1",
		"one waits on each pipe":                                   "4, 0 0 6 3, -1",
		"nobody is ready":                                          "3, 0 0 2 1, -1",
		"the others are gone":                                      "1, 0 0 0 0, 0",
		"some are gone, children of others":                        "2, 0 0 0 0, 1",
		"those between are free":                                   "2, 0 0 0 0, 0",
		"signals are here, blocked and caught":                     "2, 0 0 0 0, 0",
		"memory and swap are full":                                 "2, 12 12 0 0, 0",
		"memory is full":                                           "2, 12 0 0 0, 0",
		"six areas":                                                "1, 4 3 0 0, 0",
		"costs and weights":                                        "5, 0 0 0 0, 3",
		"the costs are ShareTop":                                   "2, 0 0 0 0, 0",
		"a file, told by one descriptor":                           "1, 0 0 1 0, 0",
		"a file, told by all descriptors of one":                   "1, 0 0 1 0, 0",
		"a file, told by descriptors of several":                   "3, 0 0 1 0, 0",
		"a folder, told by one descriptor":                         "1, 0 0 1 0, 0",
		"a folder, told by several descriptors":                    "2, 0 0 1 0, 0",
		"the first folder is open":                                 "1, 0 0 1 0, 0",
		"an end to read, told by one descriptor":                   "1, 0 0 1 1, 0",
		"an end to write, told by one descriptor":                  "1, 0 0 1 1, 0",
		"both ends, told by several descriptors":                   "2, 0 0 2 1, 0",
		"a pipe has several readers and writers":                   "2, 0 0 7 1, 0",
		"a pipe has two readers":                                   "1, 0 0 2 1, 0",
		"a pipe has two writers":                                   "1, 0 0 2 1, 0",
		"one file is open to read, write, and at end":              "2, 0 0 6 0, 0",
		"a file is open to do nothing":                             "1, 0 0 2 0, 0",
		"a file without a name":                                    "1, 0 0 1 0, 0",
		"all open files and all descriptors":                       "5, 0 0 10 3, 0",
		"a node told by open files":                                "1, 0 0 3 0, 0",
		"a node told by folders of processes":                      "3, 0 0 0 0, 0",
		"a node told by open files and folders":                    "3, 0 0 2 0, 0",
		"a node told by the mount":                                 "1, 0 0 0 0, 0",
		"a node told by the mount, and all others":                 "2, 0 0 2 0, 0",
		"the first folder of the mounted one":                      "2, 0 0 1 0, 0",
		"a folder is open that others keep, too":                   "1, 0 0 2 0, 0",
	}
}

// toldCase is the case of one of validKerns.
func toldCase(t *testing.T, name string) kernTold {
	t.Helper()
	text, want := toldCases()[name], kernTold{ok: true}
	_, err := fmt.Sscanf(text, "%d, %d %d %d %d, %d", &want.alive, &want.use[0], &want.use[1], &want.use[2], &want.use[3], &want.next)
	if err != nil {
		t.Fatalf("%s: the case %q: %v", name, text, err)
	}
	return want
}

func TestKernToldCases(t *testing.T) {
	kerns := validKerns()
	if cases := toldCases(); len(cases) != len(kerns) {
		t.Errorf("there are %d cases of %d kernels", len(cases), len(kerns))
	}
	for _, x := range kerns {
		wantTold(t, x.name, x.kern, toldCase(t, x.name))
	}
}

// What is counted in some kernels, written out.
func TestKernCountsWrittenOut(t *testing.T) {
	for _, x := range []struct {
		name string
		told func(k impl.Kern) int
		want int
	}{
		{"a file, told by one descriptor", func(k impl.Kern) int { return k.Files[0].Refs }, 1},
		{"a file, told by all descriptors of one", func(k impl.Kern) int { return k.Files[9].Refs }, 5},
		{"a file, told by descriptors of several", func(k impl.Kern) int { return k.Files[0].Refs }, 4},
		{"a file, told by descriptors of several", func(k impl.Kern) int { return k.Vfs.Fss[1].Nodes[2].Opens }, 1},
		{"a folder, told by several descriptors", func(k impl.Kern) int { return k.Files[1].Refs }, 3},
		{"a folder, told by several descriptors", func(k impl.Kern) int { return k.Vfs.Fss[1].Nodes[3].Opens }, 1},
		{"the first folder is open", func(k impl.Kern) int { return k.Vfs.Fss[0].Nodes[0].Opens }, 2},
		{"both ends, told by several descriptors", func(k impl.Kern) int { return k.Files[1].Refs }, 3},
		{"both ends, told by several descriptors", func(k impl.Kern) int { return k.Pipes[1].Readers }, 1},
		{"both ends, told by several descriptors", func(k impl.Kern) int { return k.Pipes[1].Writers }, 1},
		{"a pipe has several readers and writers", func(k impl.Kern) int { return k.Pipes[2].Readers }, 4},
		{"a pipe has several readers and writers", func(k impl.Kern) int { return k.Pipes[2].Writers }, 3},
		{"one file is open to read, write, and at end", func(k impl.Kern) int { return k.Vfs.Fss[0].Nodes[2].Opens }, 6},
		{"a node told by open files", func(k impl.Kern) int { return k.Vfs.Fss[0].Nodes[5].Opens }, 3},
		{"a node told by folders of processes", func(k impl.Kern) int { return k.Vfs.Fss[0].Nodes[4].Opens }, 3},
		{"a node told by folders of processes", func(k impl.Kern) int { return k.Vfs.Fss[0].Nodes[0].Opens }, 0},
		{"a node told by open files and folders", func(k impl.Kern) int { return k.Vfs.Fss[1].Nodes[1].Opens }, 4},
		{"a node told by the mount", func(k impl.Kern) int { return k.Vfs.Fss[0].Nodes[3].Opens }, 1},
		{"a node told by the mount, and all others", func(k impl.Kern) int { return k.Vfs.Fss[0].Nodes[3].Opens }, 5},
		{"the first folder of the mounted one", func(k impl.Kern) int { return k.Vfs.Fss[1].Nodes[0].Opens }, 3},
		{"the others are gone", func(k impl.Kern) int { return k.Vfs.Fss[0].Nodes[0].Opens }, 1},
	} {
		k := kernNamed(x.name)
		if got := x.told(k); got != x.want || !impl.KernOk(k) {
			t.Errorf("%s: counted %d, want %d, valid is %v", x.name, got, x.want, impl.KernOk(k))
		}
	}
}

// The process that gets the next tick is the one that the queue tells, by cost and then by number; those that are not ready get none.
func TestKernNextCases(t *testing.T) {
	k := kernNamed("all are ready, each one the parent of the next")
	for _, x := range []struct {
		queue string
		want  int
	}{
		{"0: 0/1:0 1/1:0 2/1:0 3/1:0 4/1:0", 0},
		{"0: 0/1:1 1/1:0 2/1:0 3/1:0 4/1:0", 1},
		{"0: 0/1:60 1/2:30 2/3:20 3/4:15 4/5:12", 4},
		{"12: 0/1:60 1/2:30 2/3:12 3/4:15 4/5:12", 2},
		{"7: 0/6:8 1/1:8 2/1:8 3/1:7 4/1:8", 3},
		{"1000000: 0/1:1000000 1/1:1000000 2/1:1000000 3/1:1000000 4/1:1000000", 0},
	} {
		if got := impl.KernNext(withKern(k, setQueue(x.queue))); got != x.want {
			t.Errorf("KernNext of the queue %s is %d, want %d", x.queue, got, x.want)
		}
	}
	states := func(list ...int) impl.Kern {
		n := cloneKern(k)
		for id, state := range list {
			n.Procs[id].State, n.Procs[id].On = state, -1
			if state == impl.ProcWaits {
				n.Procs[id].On = -2
			}
			n.Queue.Tasks[id].Ready = state == impl.ProcReady
		}
		return n
	}
	for _, x := range []struct {
		states []int
		want   int
	}{
		{[]int{1, 1, 1, 1, 1}, 0}, {[]int{2, 1, 1, 1, 1}, 1}, {[]int{3, 2, 1, 1, 1}, 2}, {[]int{2, 2, 3, 1, 2}, 3},
		{[]int{3, 3, 3, 2, 1}, 4}, {[]int{3, 3, 3, 3, 3}, -1}, {[]int{2, 2, 2, 2, 2}, -1}, {[]int{2, 3, 2, 3, 2}, -1},
	} {
		n := states(x.states...)
		if got := impl.KernNext(n); got != x.want || !impl.KernOk(n) {
			t.Errorf("KernNext of the states %v is %d, want %d, valid is %v", x.states, got, x.want, impl.KernOk(n))
		}
	}
}
