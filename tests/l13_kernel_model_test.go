package tests

import (
	"fmt"
	"math/rand"
	"reflect"
	"slices"
	"strings"
	"testing"

	"loop.example/quarterdeck/impl"
)

// kernIsValid tells, without the program, whether a kernel is valid.
func kernIsValid(k impl.Kern) bool {
	if len(k.Files) != 10 || len(k.Pipes) != 3 || len(k.Procs) != 5 {
		return false
	}
	if !memIsValid(k.Mem) || !vfsIsValid(k.Vfs) || !queueIsValid(k.Queue) {
		return false
	}
	for _, p := range k.Pipes {
		if !pipeIsValid(p) {
			return false
		}
	}
	for _, f := range k.Files {
		if !kernFileIsValid(k, f) {
			return false
		}
	}
	for _, p := range k.Procs {
		if !procIsValid(k, p) {
			return false
		}
	}
	return familyIsValid(k) && spacesAreTold(k) && countsAreValid(k) && queueHasLiving(k)
}

// kernFileIsValid tells whether an open file may be one, but for its Refs.
func kernFileIsValid(k impl.Kern, f impl.File) bool {
	if f.Refs == 0 {
		return reflect.ValueOf(f).IsZero()
	}
	if f.Pipe != -1 {
		one := f.Read && !f.Write || f.Write && !f.Read
		return rangeIsValid(f.Pipe, 0, 2) && one && !f.End && f.Pos == 0 && f.Where.Fs == 0 && f.Where.Id == 0
	}
	if !hasPlace(k.Vfs, f.Where) || !rangeIsValid(f.Pos, 0, 999) {
		return false
	}
	folder := inodeAt(k.Vfs, f.Where).Kind == 2
	return !folder || f.Read && !f.Write && !f.End
}

// procIsValid tells whether a process may be one, but for its parent.
func procIsValid(k impl.Kern, p impl.Proc) bool {
	if p.State == 0 || p.State == 4 {
		zero := len(p.Fds)+len(p.Sigs.Here)+len(p.Sigs.Block)+len(p.Sigs.Does)+len(p.Who.Groups) == 0
		zero = zero && p.Who.User == 0 && p.Who.Real == 0 && p.Dir == at(0, 0) && p.On == 0
		if p.State == 0 {
			return zero && p.Parent == 0 && p.Code == 0 && p.Space == 0
		}
		return zero && p.Space == -1 && rangeIsValid(p.Code, 0, 999)
	}
	if !isAlive(p) || !credIsValid(p.Who) || !sigsAreValid(p.Sigs) || len(p.Fds) != 5 || p.Code != 0 {
		return false
	}
	for _, fd := range p.Fds {
		if fd != -1 && (!rangeIsValid(fd, 0, 9) || k.Files[fd].Refs == 0) {
			return false
		}
	}
	if p.State == 2 && !rangeIsValid(p.On, -2, 2) || p.State == 2 == (p.On == -1) || p.State != 2 && p.On != -1 {
		return false
	}
	return isLive(k.Mem, p.Space) && hasPlace(k.Vfs, p.Dir) && inodeAt(k.Vfs, p.Dir).Kind == 2
}

// familyIsValid tells whether all processes are those that one meets when going from process 0 to its children, and from those that are alive to theirs.
func familyIsValid(k impl.Kern) bool {
	if !isAlive(k.Procs[0]) || k.Procs[0].Parent != 0 {
		return false
	}
	met := []int{0}
	for n := 0; n < len(met); n++ {
		for id, p := range k.Procs {
			if id != 0 && p.State != 0 && p.Parent == met[n] && isAlive(k.Procs[met[n]]) {
				met = append(met, id)
			}
		}
	}
	for id, p := range k.Procs {
		if p.State != 0 && !slices.Contains(met, id) {
			return false
		}
	}
	return true
}

// spacesAreTold tells whether each live space is that of just one process that is alive.
func spacesAreTold(k impl.Kern) bool {
	for who, s := range k.Mem.Spaces {
		n := 0
		for _, p := range k.Procs {
			if isAlive(p) && p.Space == who {
				n++
			}
		}
		if s.Live && n != 1 {
			return false
		}
	}
	return true
}

// countsAreValid tells whether all that is counted in a kernel is as it is when it is counted anew.
func countsAreValid(k impl.Kern) bool {
	n := cloneKern(k)
	countKern(&n)
	return sameVfs(n.Vfs, k.Vfs) && slices.Equal(n.Files, k.Files) && slices.Equal(n.Pipes, k.Pipes)
}

// queueHasLiving tells whether each process that is alive is in the queue, ready if it is, and nobody else.
func queueHasLiving(k impl.Kern) bool {
	for _, task := range k.Queue.Tasks {
		if task.Id > 4 || !isAlive(k.Procs[task.Id]) || task.Ready != (k.Procs[task.Id].State == 1) {
			return false
		}
	}
	living := 0
	for _, p := range k.Procs {
		if isAlive(p) {
			living++
		}
	}
	return len(k.Queue.Tasks) == living
}

// modelTold is what is to be told of a kernel.
func modelTold(k impl.Kern) kernTold {
	if !kernIsValid(k) {
		return nothingTold()
	}
	told := kernTold{ok: true, use: [4]int{12 - countFree(k.Mem.Ram), 12 - countFree(k.Mem.Swap), 0, 0}, next: -1}
	for _, f := range k.Files {
		if f.Refs != 0 {
			told.use[2]++
		}
	}
	for _, p := range k.Pipes {
		if p.Readers != 0 || p.Writers != 0 {
			told.use[3]++
		}
	}
	least := 0
	for id, p := range k.Procs {
		if !isAlive(p) {
			continue
		}
		told.alive++
		cost := taskOf(k.Queue, id).Cost
		if p.State == 1 && (told.next == -1 || cost < least) {
			told.next, least = id, cost
		}
	}
	return told
}

// wantKernLikeModel checks all that is told of a kernel, and tells whether it is valid.
func wantKernLikeModel(t *testing.T, what string, k impl.Kern) bool {
	t.Helper()
	want := modelTold(k)
	wantTold(t, what, k, want)
	return want.ok
}

// eachPart calls do with each number, bool, text and list that a value has, and with the way to it.
func eachPart(v reflect.Value, way string, do func(way string, v reflect.Value)) {
	switch v.Kind() {
	case reflect.Struct:
		for n := range v.NumField() {
			eachPart(v.Field(n), way+"."+v.Type().Field(n).Name, do)
		}
		return
	case reflect.Slice:
		for n := range v.Len() {
			eachPart(v.Index(n), fmt.Sprintf("%s[%d]", way, n), do)
		}
	}
	do(way, v)
}

// ownPart tells whether a part is one of chapter 13 itself, or counted in it; other parts are tried with fewer values.
func ownPart(way string) bool {
	if strings.HasPrefix(way, ".Files") || strings.HasPrefix(way, ".Procs") || strings.HasPrefix(way, ".Pipes") {
		return true
	}
	return strings.HasPrefix(way, ".Queue") || strings.HasSuffix(way, ".Opens") || strings.HasSuffix(way, ".Mount")
}

// otherNumbers are numbers to put where there is one.
func otherNumbers(way string, old int) []int {
	if !ownPart(way) {
		return []int{old + 1, old - 1}
	}
	list := append(greatNumbers(), -3, -2, -1, 0, 1, 2, 3, 4, 5, 6, 9, 10, 11, 98, 99, 100, 900, 998, 999, 1000, 1<<32, 1<<32+1, 256)
	return append(list, old-1, old+1, old-2, old+2, -old)
}

// otherLists are lists to put where there is one: none, shorter ones, longer ones, and the same ones in another order.
func otherLists(v reflect.Value) []reflect.Value {
	list := []reflect.Value{reflect.Zero(v.Type()), reflect.MakeSlice(v.Type(), 0, 0)}
	zero := reflect.Zero(v.Type().Elem())
	copied := func() reflect.Value { return reflect.AppendSlice(reflect.MakeSlice(v.Type(), 0, 0), v) }
	list = append(list, reflect.Append(copied(), zero))
	if v.Len() == 0 {
		return list
	}
	last := v.Len() - 1
	list = append(list, copied().Slice(0, last), copied().Slice(1, last+1), reflect.Append(copied(), v.Index(last)), reflect.Append(copied(), v.Index(0)))
	turned := copied()
	first := reflect.New(v.Type().Elem()).Elem()
	first.Set(v.Index(0))
	turned.Index(0).Set(v.Index(last))
	turned.Index(last).Set(first)
	return append(list, turned)
}

// otherValues are values to put where there is a part.
func otherValues(way string, v reflect.Value) []reflect.Value {
	list := []reflect.Value{}
	switch v.Kind() {
	case reflect.Int:
		for _, n := range otherNumbers(way, int(v.Int())) {
			list = append(list, reflect.ValueOf(n))
		}
	case reflect.Bool:
		list = append(list, reflect.ValueOf(!v.Bool()))
	case reflect.String:
		for _, text := range []string{"", "a", "abcd", "12345678", "123456789", v.String() + "x"} {
			list = append(list, reflect.ValueOf(text))
		}
	case reflect.Slice:
		list = otherLists(v)
	}
	return list
}

// eachChange calls do with kernels in which one part is another one, each of which it may not keep.
func eachChange(k impl.Kern, do func(what string, k impl.Kern)) {
	k = cloneKern(k)
	eachPart(reflect.ValueOf(&k).Elem(), "", func(way string, v reflect.Value) {
		old := reflect.New(v.Type()).Elem()
		old.Set(v)
		for _, other := range otherValues(way, old) {
			v.Set(other)
			do(fmt.Sprintf("%s is %.40v", way, other), k)
		}
		v.Set(old)
	})
}

// Each part of some kernels, changed alone.
func TestKernsWithOnePartChangedAreLikeModel(t *testing.T) {
	names := []string{"a new one", "a busy one", "some are gone, children of others", "all open files and all descriptors", "a node told by the mount, and all others", "a pipe has several readers and writers"}
	for _, name := range names {
		valid, not := 0, 0
		eachChange(kernNamed(name), func(what string, k impl.Kern) {
			if wantKernLikeModel(t, name+", where "+what, k) {
				valid++
			} else {
				not++
			}
		})
		if valid < 40 || not < 1000 {
			t.Errorf("%s: %d changes were valid, %d not", name, valid, not)
		}
	}
}

// A few parts of kernels, changed at once: counts may fit again.
func TestKernsWithPartsChangedAreLikeModel(t *testing.T) {
	r := rand.New(rand.NewSource(13))
	kerns, valid := validKerns(), 0
	for n := range 12000 {
		k := cloneKern(pick(r, kerns).kern)
		changes := ""
		for range 1 + r.Intn(4) {
			changes += changeKern(r, &k)
		}
		if r.Intn(2) == 0 {
			countKern(&k)
			changes += "counted "
		}
		if wantKernLikeModel(t, fmt.Sprintf("kernel %d with %s", n, changes), k) {
			valid++
		}
	}
	if valid < 1000 || valid > 8000 {
		t.Errorf("%d were valid", valid)
	}
}

// changeKern changes one thing of a kernel, and tells what; it stays valid or not.
func changeKern(r *rand.Rand, k *impl.Kern) string {
	id, n := r.Intn(5), r.Intn(10)
	p, f := &k.Procs[id], &k.Files[n]
	kind := r.Intn(12)
	switch kind {
	case 0:
		f.Where = at(r.Intn(3)-r.Intn(2), r.Intn(11)-r.Intn(2))
	case 1:
		f.Pipe = r.Intn(5) - 1
	case 2:
		f.Read, f.Write = f.Write, f.Read
	case 3:
		f.Pos = pick(r, []int{0, 1, 998, 999, 1000, -1})
	case 4:
		if len(p.Fds) > 0 {
			p.Fds[r.Intn(5)] = r.Intn(12) - 1
		}
	case 5:
		p.Parent = r.Intn(6)
	case 6:
		p.State = r.Intn(5)
		p.On = []int{0, -1, r.Intn(4) - 2, -1, 0}[p.State]
	case 7:
		p.Dir = at(r.Intn(2), r.Intn(10))
	case 8:
		other := &k.Procs[r.Intn(5)]
		p.Space, other.Space = other.Space, p.Space
	case 9:
		k.Queue = evenQueue(*k)
	case 10:
		k.Files[n], k.Files[r.Intn(10)] = k.Files[r.Intn(10)], k.Files[n]
	case 11:
		p.Code = pick(r, []int{0, 0, 7, 999, 1000, -1})
	}
	return fmt.Sprintf("change %d of %d and %d, ", kind, id, n)
}

// randomKern is a valid kernel, with one of some file systems.
func randomKern(r *rand.Rand, vfss []namedVfs) impl.Kern {
	k := impl.Kern{Mem: randomMem(r), Vfs: closedVfs(pick(r, vfss).vfs), Files: make([]impl.File, 10), Pipes: make([]impl.Pipe, 3), Procs: make([]impl.Proc, 5)}
	putProcs(r, &k)
	putFiles(r, &k)
	countKern(&k)
	for n := range k.Pipes {
		if k.Pipes[n].Readers > 0 {
			k.Pipes[n].Text = flowText(n, r.Intn(9))
		}
	}
	for _, f := range k.Vfs.Fss {
		sweep(f)
	}
	k.Queue = evenQueue(k)
	k.Queue.Floor = r.Intn(200)
	for n := range k.Queue.Tasks {
		task := &k.Queue.Tasks[n]
		task.Weight, task.Cost = 1+r.Intn(6), k.Queue.Floor+r.Intn(4)*r.Intn(50)
		if !task.Ready {
			task.Cost = r.Intn(400)
		}
	}
	return k
}

// randomMem is memory to which a walk leads, with a live space.
func randomMem(r *rand.Rand) impl.Mem {
	m := pick(r, []impl.Mem{emptyMem(r.Intn(5)), emptyMem(0), busyMem(), fullRam(r.Intn(12), r.Intn(13), r.Intn(12), r.Intn(12))})
	for range r.Intn(10) * r.Intn(20) {
		who, n := r.Intn(5), m
		ok, code := true, impl.MemFine
		switch r.Intn(14) {
		case 0:
			n, _, ok = impl.MemMake(m)
		case 1:
			n, _, ok = impl.MemFork(m, who)
		case 2:
			n, ok = impl.MemDrop(m, who)
		case 3, 4:
			n, code = impl.MemMap(m, who, impl.Area{From: r.Intn(12), Many: 1 + r.Intn(5), Write: r.Intn(3) > 0, Shared: r.Intn(3) == 0})
		default:
			n, code = impl.MemSet(m, who, r.Intn(64), r.Intn(256))
		}
		if ok && code == impl.MemFine && slices.ContainsFunc(n.Spaces, func(s impl.Space) bool { return s.Live }) {
			m = n
		}
	}
	return m
}

// closedVfs has nothing open yet, not even the mount; a file without a name may be there.
func closedVfs(v impl.Vfs) impl.Vfs {
	v = cloneVfs(v)
	for _, f := range v.Fss {
		for id := range f.Nodes {
			f.Nodes[id].Opens = 0
		}
	}
	return v
}

// putProcs gives each live space a process that is alive, in any order, and lets some of the others be gone.
func putProcs(r *rand.Rand, k *impl.Kern) {
	living := []int{0}
	ids := r.Perm(5)
	for _, who := range r.Perm(5) {
		if !k.Mem.Spaces[who].Live {
			continue
		}
		id := 0
		if isAlive(k.Procs[0]) {
			ids = slices.DeleteFunc(ids, func(id int) bool { return id == 0 })
			id, ids = ids[0], ids[1:]
		}
		p := impl.Proc{State: 1 + r.Intn(3), Parent: pick(r, living), Who: pick(r, validCreds()).cred, Space: who, Fds: fdsOf("-----"), Sigs: pick(r, fewSigs()).sigs, On: -1}
		if p.State == 2 {
			p.On = pick(r, []int{-2, 0, 1, 2})
		}
		p.Dir = pick(r, openable(*k, foldersOf(k.Vfs)))
		k.Procs[id] = p
		living = append(living, id)
	}
	for _, id := range ids {
		if id != 0 && r.Intn(2) == 0 {
			k.Procs[id] = impl.Proc{State: 4, Parent: pick(r, living), Code: pick(r, []int{0, 1, 900, 999}), Space: -1}
		}
	}
}

// openable leaves out the places of the second file system where that is not mounted.
func openable(k impl.Kern, places []impl.Place) []impl.Place {
	return slices.DeleteFunc(places, func(p impl.Place) bool { return p.Fs == 1 && k.Vfs.Mount == -1 })
}

// putFiles opens some files, folders and pipes by descriptors of processes that are alive.
func putFiles(r *rand.Rand, k *impl.Kern) {
	places := openable(*k, placesOf(k.Vfs))
	for _, n := range r.Perm(10)[:r.Intn(11)] {
		f := impl.File{Pipe: r.Intn(3), Read: r.Intn(2) == 0}
		f.Write = !f.Read
		if r.Intn(2) == 0 {
			f = impl.File{Pipe: -1, Where: pick(r, places), Pos: r.Intn(1000), Read: true}
			if inodeAt(k.Vfs, f.Where).Kind == 1 {
				f.Read, f.Write, f.End = r.Intn(2) == 0, r.Intn(2) == 0, r.Intn(2) == 0
			}
		}
		for range 1 + r.Intn(3) {
			p := &k.Procs[r.Intn(5)]
			if isAlive(*p) {
				p.Fds[r.Intn(5)] = n
			}
		}
		k.Files[n] = f
	}
	for n := range k.Files {
		if refsOf(*k, n) == 0 {
			k.Files[n] = impl.File{}
		}
	}
}

// randomKerns are many valid kernels, of which the model says so.
func randomKerns(t *testing.T, seed int64, many int) []namedKern {
	t.Helper()
	r := rand.New(rand.NewSource(seed))
	list, vfss := []namedKern{}, validVfss()
	for n := range many {
		k := randomKern(r, vfss)
		if !kernIsValid(k) {
			t.Fatalf("kernel %d of seed %d is not valid: %s", n, seed, kernText(k))
		}
		list = append(list, namedKern{fmt.Sprintf("kernel %d of seed %d", n, seed), k})
	}
	return list
}

func TestKernsAreLikeModel(t *testing.T) {
	for _, x := range append(validKerns(), randomKerns(t, 1, 400)...) {
		if !wantKernLikeModel(t, x.name, x.kern) {
			t.Errorf("%s is not valid: %s", x.name, kernText(x.kern))
		}
	}
}
