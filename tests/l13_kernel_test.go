package tests

import (
	"fmt"
	"testing"

	"loop.example/quarterdeck/impl"
)

// allKerns are valid and other ones.
func allKerns(t *testing.T) []namedKern {
	t.Helper()
	return append(append(validKerns(), randomKerns(t, 2, 200)...), invalidKerns()...)
}

// livingOf are the numbers of the processes that are alive.
func livingOf(k impl.Kern) []int {
	list := []int{}
	for id, p := range k.Procs {
		if isAlive(p) {
			list = append(list, id)
		}
	}
	return list
}

// liveSpaces counts the spaces that are live.
func liveSpaces(k impl.Kern) int {
	n := 0
	for who := range k.Mem.Spaces {
		if isLive(k.Mem, who) {
			n++
		}
	}
	return n
}

// Promise 124.
func TestKernNewHasOneProcessAndUsesNothing(t *testing.T) {
	k := impl.KernNew()
	if !impl.KernOk(k) || impl.KernAlive(k) != 1 || impl.KernNext(k) != 0 {
		t.Errorf("KernNew: valid is %v, %d are alive, %d is next", impl.KernOk(k), impl.KernAlive(k), impl.KernNext(k))
	}
	ram, swap, files, pipes := impl.KernUse(k)
	if ram != 0 || swap != 0 || files != 0 || pipes != 0 {
		t.Errorf("KernNew uses %d, %d, %d and %d", ram, swap, files, pipes)
	}
	if p := k.Procs[0]; p.State != impl.ProcReady || p.Who.User != 0 || p.Who.Real != 0 || len(p.Who.Groups) != 0 || p.Dir != at(0, 0) {
		t.Errorf("the process of KernNew is %+v", p)
	}
	if len(k.Queue.Tasks) != 1 || k.Queue.Tasks[0].Weight != 1 || k.Vfs.Mount != -1 {
		t.Errorf("KernNew has the queue %s and the mount %d", queueText(k.Queue), k.Vfs.Mount)
	}
}

// wantPartsOk checks that all parts of a kernel are valid, by the program.
func wantPartsOk(t *testing.T, what string, k impl.Kern) {
	t.Helper()
	if !impl.MemOk(k.Mem) || !impl.VfsOk(k.Vfs) || !impl.QueueOk(k.Queue) || len(k.Files) != impl.FileMax || len(k.Pipes) != impl.PipeMax || len(k.Procs) != impl.ProcMax {
		t.Fatalf("%s: memory, file systems, queue or a list is not valid: %s", what, kernText(k))
	}
	for n, p := range k.Pipes {
		if !impl.PipeOk(p) {
			t.Fatalf("%s: the pipe %d is not valid: %s", what, n, pipeText(p))
		}
	}
	for _, id := range livingOf(k) {
		if p := k.Procs[id]; !impl.CredOk(p.Who) || !impl.SigsOk(p.Sigs) || len(p.Fds) != impl.FdMax || !isLive(k.Mem, p.Space) {
			t.Fatalf("%s: the process %d is not valid: %+v", what, id, p)
		}
	}
}

// Promise 125.
func TestKernOkHoldsJustIfKernAliveTells(t *testing.T) {
	check := func(what string, k impl.Kern) {
		ok, alive := impl.KernOk(k), impl.KernAlive(k)
		if ok != (alive != -1) || alive < -1 {
			t.Fatalf("%s: KernOk is %v, KernAlive %d", what, ok, alive)
		}
		if ok {
			wantPartsOk(t, what, k)
		}
	}
	for _, x := range allKerns(t) {
		check(x.name, x.kern)
	}
	for _, name := range []string{"a busy one", "the others are gone"} {
		eachChange(kernNamed(name), func(what string, k impl.Kern) { check(name+", where "+what, k) })
	}
}

// Promise 126.
func TestKernAliveIsHowManySpacesAreLive(t *testing.T) {
	met := map[int]int{}
	for _, x := range allKerns(t) {
		want := -1
		if impl.KernOk(x.kern) {
			want = liveSpaces(x.kern)
		}
		if got := impl.KernAlive(x.kern); got != want || got != -1 && got != len(livingOf(x.kern)) {
			t.Errorf("%s: KernAlive is %d, %d spaces are live", x.name, got, want)
		}
		met[want]++
	}
	for want := -1; want <= 5; want++ {
		if want != 0 && met[want] < 5 || want == 0 && met[want] > 0 {
			t.Errorf("%d were alive %d times", want, met[want])
		}
	}
}

// Promise 127.
func TestKernUseTellsWhatIsNotFree(t *testing.T) {
	for _, x := range allKerns(t) {
		want := [4]int{-1, -1, -1, -1}
		if impl.KernOk(x.kern) {
			want = [4]int{}
			for _, n := range x.kern.Mem.Ram.Refs {
				want[0] += min(n, 1)
			}
			for _, n := range x.kern.Mem.Swap.Refs {
				want[1] += min(n, 1)
			}
			for file := range x.kern.Files {
				want[2] += min(refsOf(x.kern, file), 1)
			}
			for pipe := range x.kern.Pipes {
				readers, writers := endsOf(x.kern, pipe)
				want[3] += min(readers+writers, 1)
			}
		}
		got := [4]int{}
		got[0], got[1], got[2], got[3] = impl.KernUse(x.kern)
		if got != want {
			t.Errorf("%s: KernUse is %v, want %v", x.name, got, want)
		}
	}
}

// Promise 128.
func TestKernNextIsReady(t *testing.T) {
	nobody := 0
	for _, x := range allKerns(t) {
		next, want := impl.KernNext(x.kern), -1
		if impl.KernOk(x.kern) {
			want = impl.QueueNext(x.kern.Queue)
		}
		if next != want {
			t.Errorf("%s: KernNext is %d, want %d", x.name, next, want)
		}
		if next != -1 && x.kern.Procs[next].State != impl.ProcReady {
			t.Errorf("%s: the process %d is next, and not ready", x.name, next)
		}
		if next != -1 || !impl.KernOk(x.kern) {
			continue
		}
		nobody++
		for id, p := range x.kern.Procs {
			if p.State == impl.ProcReady {
				t.Errorf("%s: the process %d is ready, and nobody is next", x.name, id)
			}
		}
	}
	if nobody < 10 {
		t.Errorf("just in %d valid kernels nobody was ready", nobody)
	}
}

// Ticks of the queue leave a kernel valid, and who gets each one is who was next.
func TestKernNextGetsTheNextTick(t *testing.T) {
	for _, x := range append(validKerns(), randomKerns(t, 3, 100)...) {
		k := cloneKern(x.kern)
		for n := range 20 {
			next := impl.KernNext(k)
			q, id, ok := impl.QueueTick(k.Queue)
			if !ok {
				break
			}
			if id != next || k.Procs[next].State != impl.ProcReady {
				t.Fatalf("%s, tick %d: the process %d got it, %d was next", x.name, n, id, next)
			}
			k.Queue = q
			wantKernLikeModel(t, fmt.Sprintf("%s, tick %d", x.name, n), k)
		}
	}
}

// Random kernels have all that a kernel may have.
func TestRandomKernsAreOfEachSort(t *testing.T) {
	met := map[string]int{}
	for _, x := range randomKerns(t, 2, 200) {
		k := x.kern
		for _, p := range k.Procs {
			met[fmt.Sprintf("state %d on %d", p.State, p.On)]++
		}
		for _, f := range k.Files {
			if f.Refs > 0 {
				kind := 0
				if f.Pipe == -1 {
					kind = inodeAt(k.Vfs, f.Where).Kind
				}
				met[fmt.Sprintf("open file of kind %d, in pipe %v, told %v", kind, f.Pipe >= 0, f.Refs > 1)]++
			}
		}
		met[fmt.Sprintf("mounted %v", k.Vfs.Mount >= 0)]++
		met[fmt.Sprintf("swap used %v", countFree(k.Mem.Swap) < 12)]++
	}
	for _, sort := range []string{
		"state 0 on 0", "state 1 on -1", "state 2 on -2", "state 2 on 0", "state 2 on 1", "state 2 on 2", "state 3 on -1", "state 4 on 0",
		"open file of kind 0, in pipe true, told true", "open file of kind 0, in pipe true, told false",
		"open file of kind 1, in pipe false, told true", "open file of kind 1, in pipe false, told false",
		"open file of kind 2, in pipe false, told true", "open file of kind 2, in pipe false, told false",
		"mounted true", "mounted false", "swap used true", "swap used false",
	} {
		if met[sort] < 5 {
			t.Errorf("%s: met %d times", sort, met[sort])
		}
	}
}
