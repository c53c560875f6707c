package tests

import (
	"testing"

	"loop.example/quarterdeck/impl"
)

// story is a kernel that is changed step by step by what earlier chapters have, counts being changed by hand.
type story struct {
	t *testing.T
	k impl.Kern
}

// step changes the kernel; it is not valid as long as not all is done, where half does just a part of it.
func (s *story) step(what string, want kernTold, edits ...kernEdit) {
	s.t.Helper()
	for n := 1; n < len(edits); n++ {
		wantTold(s.t, what+", not yet done", withKern(s.k, edits[:n]...), nothingTold())
	}
	s.k = withKern(s.k, edits...)
	wantTold(s.t, what, s.k, want)
}

// tellsOf is what is told of a valid kernel.
func tellsOf(alive, ram, swap, files, pipes, next int) kernTold {
	return kernTold{ok: true, alive: alive, use: [4]int{ram, swap, files, pipes}, next: next}
}

// mem makes memory what a call of chapter 3 makes of it.
func (s *story) mem(do func(m impl.Mem) (impl.Mem, bool)) kernEdit {
	return func(k *impl.Kern) {
		m, ok := do(k.Mem)
		if !ok {
			s.t.Fatalf("memory is not changed: %s", memText(k.Mem))
		}
		k.Mem = m
	}
}

// queue makes the queue what a call of chapter 11 makes of it.
func (s *story) queue(do func(q impl.Queue) (impl.Queue, bool)) kernEdit {
	return func(k *impl.Kern) {
		q, ok := do(k.Queue)
		if !ok {
			s.t.Fatalf("the queue is not changed: %s", queueText(k.Queue))
		}
		k.Queue = q
	}
}

// open opens a node once more, or once less.
func (s *story) open(p impl.Place, more bool) kernEdit {
	return func(k *impl.Kern) {
		f, code := impl.FsOpen(k.Vfs.Fss[p.Fs], p.Id, more)
		if code != impl.ErrFine {
			s.t.Fatalf("FsOpen of %v is %d", p, code)
		}
		k.Vfs.Fss[p.Fs] = f
	}
}

// sleep and wake change whether a process is ready, on what it waits, and the queue.
func (s *story) sleep(id, on int) []kernEdit {
	return []kernEdit{
		setProc(id, func(p *impl.Proc) { p.State, p.On = impl.ProcWaits, on }),
		s.queue(func(q impl.Queue) (impl.Queue, bool) { return impl.QueueSleep(q, id) }),
	}
}

func (s *story) wake(id int) []kernEdit {
	return []kernEdit{
		setProc(id, func(p *impl.Proc) { p.State, p.On = impl.ProcReady, -1 }),
		s.queue(func(q impl.Queue) (impl.Queue, bool) { return impl.QueueWake(q, id) }),
	}
}

// A process makes a pipe and a child, waits for it, and lets it go; all is given back.
func TestKernStoryOfAPipeAndAChild(t *testing.T) {
	s := &story{t, impl.KernNew()}
	s.step("process 0 has an area", tellsOf(1, 0, 0, 0, 0, 0), s.mem(func(m impl.Mem) (impl.Mem, bool) {
		m, code := impl.MemMap(m, 0, writable(2, 3))
		return m, code == impl.MemFine
	}))
	s.step("it writes a byte", tellsOf(1, 1, 0, 0, 0, 0), s.mem(func(m impl.Mem) (impl.Mem, bool) {
		m, code := impl.MemSet(m, 0, 9, 77)
		return m, code == impl.MemFine
	}))
	s.step("it makes a pipe", tellsOf(1, 1, 0, 2, 1, 0),
		func(k *impl.Kern) { k.Files[0] = impl.File{Refs: 1, Pipe: 0, Read: true} },
		func(k *impl.Kern) { k.Files[1] = impl.File{Refs: 1, Pipe: 0, Write: true} },
		setFd(0, 0, 0), setFd(0, 1, 1),
		setPipe(0, func(p *impl.Pipe) { p.Readers = 1 }), setPipe(0, func(p *impl.Pipe) { p.Writers = 1 }))
	s.step("it makes a child", tellsOf(2, 1, 0, 2, 1, 0),
		s.mem(func(m impl.Mem) (impl.Mem, bool) { m, _, ok := impl.MemFork(m, 0); return m, ok }),
		func(k *impl.Kern) { k.Procs[1] = procOf("ready ^0 s1 fd01---") },
		func(k *impl.Kern) { k.Files[0].Refs++ }, func(k *impl.Kern) { k.Files[1].Refs++ },
		s.open(at(0, 0), true),
		s.queue(func(q impl.Queue) (impl.Queue, bool) { return impl.QueueAdd(q, 1, 1) }))
	s.step("it waits to read", tellsOf(2, 1, 0, 2, 1, 1), s.sleep(0, 0)...)
	s.step("the child writes a byte of its memory", tellsOf(2, 2, 0, 2, 1, 1), s.mem(func(m impl.Mem) (impl.Mem, bool) {
		m, code := impl.MemSet(m, 1, 9, 78)
		return m, code == impl.MemFine
	}))
	s.step("the child writes to the pipe", tellsOf(2, 2, 0, 2, 1, 1), setPipe(0, func(p *impl.Pipe) { *p, _, _ = impl.PipePut(*p, "text") }))
	s.step("process 0 wakes", tellsOf(2, 2, 0, 2, 1, 0), s.wake(0)...)
	s.step("it reads", tellsOf(2, 2, 0, 2, 1, 0), setPipe(0, func(p *impl.Pipe) { *p, _, _ = impl.PipeTake(*p, 9) }))
	s.step("it waits for the child", tellsOf(2, 2, 0, 2, 1, 1), s.sleep(0, -2)...)
	s.step("the child ends", tellsOf(1, 1, 0, 2, 1, -1),
		s.queue(func(q impl.Queue) (impl.Queue, bool) { return impl.QueueLess(q, 1) }),
		s.open(at(0, 0), false),
		func(k *impl.Kern) { k.Files[0].Refs-- }, func(k *impl.Kern) { k.Files[1].Refs-- },
		s.mem(func(m impl.Mem) (impl.Mem, bool) { return impl.MemDrop(m, 1) }),
		func(k *impl.Kern) { k.Procs[1] = procOf("gone ^0 code7") })
	s.step("process 0 wakes again", tellsOf(1, 1, 0, 2, 1, 0), s.wake(0)...)
	s.step("the child is waited for", tellsOf(1, 1, 0, 2, 1, 0), func(k *impl.Kern) { k.Procs[1] = impl.Proc{} })
	s.step("it closes the end to write", tellsOf(1, 1, 0, 1, 1, 0), setFd(0, 1, -1), func(k *impl.Kern) { k.Files[1] = impl.File{} }, setPipe(0, func(p *impl.Pipe) { p.Writers-- }))
	s.step("it closes the end to read", tellsOf(1, 1, 0, 0, 0, 0), setFd(0, 0, -1), func(k *impl.Kern) { k.Files[0] = impl.File{} }, setPipe(0, func(p *impl.Pipe) { p.Readers-- }))
	s.step("it has no area any more", tellsOf(1, 0, 0, 0, 0, 0), s.mem(func(m impl.Mem) (impl.Mem, bool) {
		m, code := impl.MemCut(m, 0, 2, 3)
		return m, code == impl.MemFine
	}))
	want := impl.KernNew()
	want.Queue = s.k.Queue
	wantKern(t, "behind all of it", s.k, want)
}

// A process makes a folder, mounts on it, goes there and opens what is there; each node is open as many times as it is told.
func TestKernStoryOfAMount(t *testing.T) {
	s := &story{t, impl.KernNew()}
	inFirst := func(do func(f impl.Fs) (impl.Fs, int)) kernEdit {
		return func(k *impl.Kern) {
			f, code := do(k.Vfs.Fss[0])
			if code != impl.ErrFine {
				t.Fatalf("the file system is not changed: %d", code)
			}
			k.Vfs.Fss[0] = f
		}
	}
	s.step("a folder", tellsOf(1, 0, 0, 0, 0, 0), inFirst(func(f impl.Fs) (impl.Fs, int) {
		f, _, code := impl.FsMake(f, user0, 0, "m", impl.KindFolder, 0o755)
		return f, code
	}))
	s.step("a mount", tellsOf(1, 0, 0, 0, 0, 0), func(k *impl.Kern) { k.Vfs, _ = impl.VfsMount(k.Vfs, user0, 1) })
	s.step("the folder above is open", tellsOf(1, 0, 0, 1, 0, 0),
		s.open(at(0, 0), true), setFd(0, 0, 9), func(k *impl.Kern) { k.Files[9] = impl.File{Refs: 1, Pipe: -1, Read: true} })
	s.step("into the mounted one", tellsOf(1, 0, 0, 1, 0, 0),
		s.open(at(1, 0), true), setProc(0, func(p *impl.Proc) { p.Dir = at(1, 0) }), s.open(at(0, 0), false))
	s.step("its first folder is open, too", tellsOf(1, 0, 0, 2, 0, 0),
		s.open(at(1, 0), true), setFd(0, 4, 3), func(k *impl.Kern) { k.Files[3] = impl.File{Refs: 1, Pipe: -1, Where: at(1, 0), Read: true} })
	s.step("one more descriptor of it", tellsOf(1, 0, 0, 2, 0, 0), setFd(0, 2, 3), func(k *impl.Kern) { k.Files[3].Refs++ })
	s.step("and one less", tellsOf(1, 0, 0, 2, 0, 0), setFd(0, 4, -1), func(k *impl.Kern) { k.Files[3].Refs-- })
	s.step("it is closed", tellsOf(1, 0, 0, 1, 0, 0), setFd(0, 2, -1), func(k *impl.Kern) { k.Files[3] = impl.File{} }, s.open(at(1, 0), false))
	s.step("out of the mounted one", tellsOf(1, 0, 0, 1, 0, 0),
		s.open(at(1, 0), false), setProc(0, func(p *impl.Proc) { p.Dir = at(0, 0) }), s.open(at(0, 0), true))
	s.step("no mount", tellsOf(1, 0, 0, 1, 0, 0), func(k *impl.Kern) { k.Vfs, _ = impl.VfsUnmount(k.Vfs, user0) })
	s.step("the folder is dropped", tellsOf(1, 0, 0, 1, 0, 0), inFirst(func(f impl.Fs) (impl.Fs, int) { return impl.FsDrop(f, user0, 0, "m") }))
	s.step("the folder above is closed", tellsOf(1, 0, 0, 0, 0, 0), setFd(0, 0, -1), func(k *impl.Kern) { k.Files[9] = impl.File{} }, s.open(at(0, 0), false))
	wantKern(t, "behind all of it", s.k, impl.KernNew())
}
