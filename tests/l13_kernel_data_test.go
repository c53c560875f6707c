package tests

import (
	"fmt"
	"slices"
	"strconv"
	"strings"
	"testing"

	"loop.example/quarterdeck/impl"
)

// namedKern is a kernel with a name for what a test reports.
type namedKern struct {
	name string
	kern impl.Kern
}

// kernEdit changes a kernel that is to be changed.
type kernEdit func(k *impl.Kern)

// kernPlan is what a kernel is made of; what is counted in it is not told. Without a queue all that are alive have weight 1 and no cost.
type kernPlan struct {
	mem   impl.Mem
	vfs   impl.Vfs
	files []string
	pipes []string
	procs []string
	queue string
}

// numberOf reads a number.
func numberOf(text string) int {
	n, err := strconv.Atoi(text)
	if err != nil {
		panic(err)
	}
	return n
}

// placeIn reads a place: the file system, a dot and the node.
func placeIn(text string) impl.Place {
	fs, id, _ := strings.Cut(text, ".")
	return at(numberOf(fs), numberOf(id))
}

// fileOf reads an open file, without Refs: letters of r to read, w to write and e for End, then the place, or | and the pipe, and @ and the position; "" is free.
func fileOf(text string) impl.File {
	if text == "" {
		return impl.File{}
	}
	f := impl.File{Pipe: -1}
	for k, word := range strings.Fields(text) {
		switch {
		case k == 0:
			f.Read, f.Write, f.End = strings.Contains(word, "r"), strings.Contains(word, "w"), strings.Contains(word, "e")
		case word[0] == '|':
			f.Pipe = numberOf(word[1:])
		case word[0] == '@':
			f.Pos = numberOf(word[1:])
		default:
			f.Where = placeIn(word)
		}
	}
	return f
}

// fdsOf reads descriptors: the number of an open file, or - for none.
func fdsOf(text string) []int {
	list := []int{}
	for _, sign := range text {
		list = append(list, strings.IndexRune("0123456789", sign))
	}
	return list
}

// credOf reads who someone is: the user, a comma and the real one, and a comma and a group for each.
func credOf(text string) impl.Cred {
	words := strings.Split(text, ",")
	c := impl.Cred{User: numberOf(words[0]), Real: numberOf(words[1])}
	for _, word := range words[2:] {
		c.Groups = append(c.Groups, numberOf(word))
	}
	return c
}

// procOf reads a process: its state, and then what is not as it is without a word: ^ and the parent, code, u and who it is, s and the space, fd and the descriptors, in and the folder, on and on what it waits; "" is free.
func procOf(text string) impl.Proc {
	words := strings.Fields(text)
	if len(words) == 0 {
		return impl.Proc{}
	}
	p := impl.Proc{State: slices.Index([]string{"free", "ready", "waits", "stops", "gone"}, words[0])}
	if p.State == 4 {
		p.Space = -1
	} else {
		p.Fds, p.On, p.Sigs = fdsOf("-----"), -1, sigsOf(noneOf, noneOf, noneOf)
	}
	readers := []struct {
		sign string
		read func(word string)
	}{
		{"^", func(word string) { p.Parent = numberOf(word) }},
		{"code", func(word string) { p.Code = numberOf(word) }},
		{"u", func(word string) { p.Who = credOf(word) }},
		{"s", func(word string) { p.Space = numberOf(word) }},
		{"fd", func(word string) { p.Fds = fdsOf(word) }},
		{"in", func(word string) { p.Dir = placeIn(word) }},
		{"on", func(word string) { p.On = numberOf(word) }},
	}
	for _, word := range words[1:] {
		for _, x := range readers {
			if rest, ok := strings.CutPrefix(word, x.sign); ok {
				x.read(rest)
			}
		}
	}
	return p
}

// kernOf is the kernel of a plan, with all that is counted in it; what is missing behind lists is free.
func kernOf(plan kernPlan) impl.Kern {
	k := impl.Kern{Mem: cloneMem(plan.mem), Vfs: cloneVfs(plan.vfs), Files: make([]impl.File, 10), Pipes: make([]impl.Pipe, 3), Procs: make([]impl.Proc, 5)}
	for n, text := range plan.files {
		k.Files[n] = fileOf(text)
	}
	for n, text := range plan.pipes {
		k.Pipes[n].Text = text
	}
	for n, text := range plan.procs {
		k.Procs[n] = procOf(text)
	}
	k.Queue = evenQueue(k)
	if plan.queue != "" {
		k.Queue = queueOf(plan.queue)
	}
	countKern(&k)
	return k
}

// isAlive tells whether a process is ready, waits or was stopped.
func isAlive(p impl.Proc) bool {
	return p.State == 1 || p.State == 2 || p.State == 3
}

// evenQueue has all processes that are alive, with weight 1, and no cost.
func evenQueue(k impl.Kern) impl.Queue {
	q := impl.Queue{}
	for id, p := range k.Procs {
		if isAlive(p) {
			q.Tasks = append(q.Tasks, impl.Task{Id: id, Weight: 1, Ready: p.State == 1})
		}
	}
	return q
}

// countKern sets all that is counted in a kernel: the Refs of open files, readers and writers of pipes, and Opens of nodes. What is told and not there is not counted.
func countKern(k *impl.Kern) {
	for n := range k.Files {
		k.Files[n].Refs = refsOf(*k, n)
	}
	for n := range k.Pipes {
		k.Pipes[n].Readers, k.Pipes[n].Writers = endsOf(*k, n)
	}
	for fs := range k.Vfs.Fss {
		for id := range k.Vfs.Fss[fs].Nodes {
			k.Vfs.Fss[fs].Nodes[id].Opens = opensOf(*k, at(fs, id))
		}
	}
}

// refsOf counts the descriptors that are an open file.
func refsOf(k impl.Kern, file int) int {
	n := 0
	for _, p := range k.Procs {
		for _, fd := range p.Fds {
			if fd == file {
				n++
			}
		}
	}
	return n
}

// endsOf counts the open files that read and those that write a pipe.
func endsOf(k impl.Kern, pipe int) (int, int) {
	readers, writers := 0, 0
	for _, f := range k.Files {
		if f.Pipe == pipe && f.Read {
			readers++
		}
		if f.Pipe == pipe && f.Write {
			writers++
		}
	}
	return readers, writers
}

// opensOf counts how many times a node is told: by open files, by folders of processes that are alive, and by the mount.
func opensOf(k impl.Kern, p impl.Place) int {
	n := 0
	for _, f := range k.Files {
		if f.Pipe == -1 && f.Where == p {
			n++
		}
	}
	for _, proc := range k.Procs {
		if isAlive(proc) && proc.Dir == p {
			n++
		}
	}
	if k.Vfs.Mount != -1 && p == at(0, k.Vfs.Mount) {
		n++
	}
	return n
}

// emptyMem has some live spaces, without areas.
func emptyMem(spaces ...int) impl.Mem {
	m := memOf(0)
	for _, who := range spaces {
		m.Spaces[who] = liveSpace(nil, nil)
	}
	return m
}

// newVfss are the file systems of a new kernel.
func newVfss() impl.Vfs {
	return apart(newFs(0, 493), newFs(0, 493))
}

// withKern is a copy of a kernel, changed, with nothing counted anew; countedKern is one with all that is counted.
func withKern(k impl.Kern, edits ...kernEdit) impl.Kern {
	k = cloneKern(k)
	for _, edit := range edits {
		edit(&k)
	}
	return k
}

func countedKern(k impl.Kern, edits ...kernEdit) impl.Kern {
	return withKern(k, append(edits, countKern)...)
}

// setFile, setProc, setPipe, setFd and setQueue make one thing of a kernel another one.
func setFile(n int, text string) kernEdit {
	return func(k *impl.Kern) {
		f := fileOf(text)
		f.Refs = k.Files[n].Refs
		k.Files[n] = f
	}
}

func setProc(id int, change func(p *impl.Proc)) kernEdit {
	return func(k *impl.Kern) { change(&k.Procs[id]) }
}

func setPipe(n int, change func(p *impl.Pipe)) kernEdit {
	return func(k *impl.Kern) { change(&k.Pipes[n]) }
}

func setFd(id, fd, file int) kernEdit {
	return setProc(id, func(p *impl.Proc) { p.Fds[fd] = file })
}

func setQueue(text string) kernEdit {
	return func(k *impl.Kern) { k.Queue = queueOf(text) }
}

// setOpensAt changes how many times a node is told to be open.
func setOpensAt(p impl.Place, more int) kernEdit {
	return func(k *impl.Kern) { k.Vfs.Fss[p.Fs].Nodes[p.Id].Opens += more }
}

// inMem and inVfs change memory and file systems.
func inMem(edits ...memEdit) kernEdit {
	return func(k *impl.Kern) {
		for _, edit := range edits {
			edit(&k.Mem)
		}
	}
}

func inVfs(edits ...vfsEdit) kernEdit {
	return func(k *impl.Kern) {
		for _, edit := range edits {
			edit(&k.Vfs)
		}
	}
}

// busyMem has the spaces 0, 2, 3 and 4, with pages in memory and in swap.
func busyMem() impl.Mem {
	return memOf(3,
		liveSpace([]impl.Area{writable(0, 4), shared(6, 3)}, map[int]string{0: "f0o", 1: "f1", 2: "s2u", 6: "f4ou", 7: "s5o"}),
		impl.Space{},
		liveSpace([]impl.Area{writable(0, 4), shared(6, 3)}, map[int]string{1: "f1u", 2: "s2", 3: "s3o", 6: "f4o", 7: "s5o"}),
		liveSpace(nil, nil),
		liveSpace([]impl.Area{area(15, 1)}, map[int]string{15: "f11o"}))
}

// busyPlan has the second file system mounted; a process that is ready, one that waits on a pipe, one that waits for a child, one that was stopped, one that is gone; and open files of each sort.
func busyPlan() kernPlan {
	return kernPlan{
		mem: busyMem(),
		vfs: mounted(townFs(), 3, hillFs()),
		files: []string{
			"r 0.2 @5",
			"r 0.1 @2",
			"r |0",
			"w |0",
			"w |0",
			"rwe 1.2 @999",
			"w |2",
			"",
			"r |2",
			"r 0.2",
		},
		pipes: []string{"", "", "abc"},
		procs: []string{
			"ready s0 fd0013-",
			"waits ^0 s4 u3,3,2,5 in0.1 fd2-1-- on0",
			"waits ^0 s2 u2,4 in1.1 fd30-56 on-2",
			"stops ^2 s3 u9,9 in0.1 fd-4589",
			"gone ^2 code7",
		},
		queue: "60: 0/2:90 1/1:30z 2/6:0z 3/3:120z",
	}
}

func busyKern() impl.Kern {
	return kernOf(busyPlan())
}

// validPlans are written out, each one for what its name tells.
func validPlans() map[string]kernPlan {
	town := func() impl.Vfs { return mounted(townFs(), 3, hillFs()) }
	plans := map[string]kernPlan{
		"a new one":  {mem: emptyMem(0), procs: []string{"ready s0"}},
		"a busy one": busyPlan(),
		"process 0 waits for a child, without one":                 {mem: emptyMem(0), procs: []string{"waits s0 on-2"}},
		"process 0 was stopped":                                    {mem: emptyMem(3), procs: []string{"stops s3"}},
		"process 0 waits on the pipe 2, which it reads and writes": {mem: emptyMem(0), files: []string{"r |2", "w |2"}, procs: []string{"waits s0 fd01--- on2"}},
		"process 0 waits on a pipe of which it has no end":         {mem: emptyMem(0, 1), files: []string{"r |1", "w |1"}, procs: []string{"waits s0 on1", "ready s1 fd01---"}},
		"process 0 waits on a pipe that is gone":                   {mem: emptyMem(0), procs: []string{"waits s0 on0"}},
		"process 0 of another user, in a folder":                   {mem: emptyMem(4), vfs: town(), procs: []string{"ready s4 u7,8,0,9 in0.7"}},
		"two are ready":                                            {mem: emptyMem(0, 1), procs: []string{"ready s1", "ready s0 u3,3"}},
		"two are ready, the second one is next":                    {mem: emptyMem(0, 1), procs: []string{"ready s0", "ready s1"}, queue: "3: 0/1:7 1/1:6"},
		"just the last one is ready":                               {mem: emptyMem(0, 1, 2, 3, 4), procs: []string{"waits s4 on-2", "stops s3", "waits s2 on0", "stops s1", "ready s0"}},
		"all are ready, each one the parent of the next":           {mem: emptyMem(0, 1, 2, 3, 4), procs: []string{"ready s3", "ready s4 ^0", "ready s1 ^1", "ready s0 ^2", "ready s2 ^3"}},
		"all are ready, the last one below the first, and so on":   {mem: emptyMem(0, 1, 2, 3, 4), procs: []string{"ready s0", "ready s1 ^2", "ready s2 ^3", "ready s3 ^4", "ready s4 ^0"}},
		"all wait for a child":                                     {mem: emptyMem(0, 1, 2, 3, 4), procs: []string{"waits s0 on-2", "waits s1 on-2", "waits s2 on-2", "waits s3 on-2", "waits s4 on-2"}},
		"all were stopped":                                         {mem: emptyMem(0, 1, 2, 3, 4), procs: []string{"stops s0", "stops s1 ^4", "stops s2", "stops s3 ^2", "stops s4 ^3"}},
		"one waits on each pipe":                                   {mem: emptyMem(0, 1, 2, 3), files: []string{"r |0", "w |0", "r |1", "w |1", "r |2", "w |2"}, pipes: []string{"", "12345678", ""}, procs: []string{"stops s0 fd024--", "waits s1 fd-01-- on0", "waits s2 fd23--- on1", "waits s3 fd---54 on2"}},
		"nobody is ready":                                          {mem: emptyMem(0, 1, 2), files: []string{"r |0", "w |0"}, procs: []string{"waits s0 on-2", "waits s1 fd01--- on0", "stops s2 ^1"}},
		"the others are gone":                                      {mem: emptyMem(2), procs: []string{"ready s2", "gone ^0 code0", "gone ^0 code1", "gone ^0 code900", "gone ^0 code999"}},
		"some are gone, children of others":                        {mem: emptyMem(0, 4), procs: []string{"waits s4 on-2", "ready s0 ^0 u1,2", "gone ^1 code908", "", "gone ^1 code5"}},
		"those between are free":                                   {mem: emptyMem(4, 1), procs: []string{"ready s1", "", "", "ready s4 ^0"}},
		"signals are here, blocked and caught":                     {mem: emptyMem(0, 1), procs: []string{"ready s0", "ready s1"}},
		"memory and swap are full":                                 {mem: fullRam(5, 12, 1, 3), procs: []string{"ready s0", "ready s1"}},
		"memory is full":                                           {mem: fullRam(0, 0, allUsed()...), procs: []string{"ready s1", "ready s0"}},
		"six areas":                                                {mem: memOf(3, liveSpace(sixAreas(), map[int]string{0: "f4o", 1: "s3u", 3: "f2ou", 7: "f0", 9: "s11o", 11: "s0o", 14: "f11u"})), procs: []string{"ready s0"}},
		"costs and weights":                                        {mem: emptyMem(0, 1, 2, 3, 4), procs: []string{"ready s0", "ready s1", "stops s2", "ready s3", "ready s4"}, queue: "500: 0/1:1000000 1/6:510 2/2:0z 3/3:505 4/4:505"},
		"the costs are ShareTop":                                   {mem: emptyMem(0, 1), procs: []string{"ready s0", "ready s1"}, queue: "1000000: 0/1:1000000 1/1:1000000"},
	}
	for name, plan := range openPlans() {
		plans[name] = plan
	}
	for name, plan := range plans {
		if plan.vfs.Fss == nil {
			plan.vfs = newVfss()
			plans[name] = plan
		}
	}
	return plans
}

// openPlans are about what is open.
func openPlans() map[string]kernPlan {
	town := func() impl.Vfs { return mounted(townFs(), 3, hillFs()) }
	two, three := emptyMem(0, 1), emptyMem(0, 1, 2)
	return map[string]kernPlan{
		"a file, told by one descriptor":              {mem: emptyMem(0), vfs: town(), files: []string{"r 0.2"}, procs: []string{"ready s0 fd0----"}},
		"a file, told by all descriptors of one":      {mem: emptyMem(0), vfs: town(), files: []string{"", "", "", "", "", "", "", "", "", "w 0.6 @999"}, procs: []string{"ready s0 fd99999"}},
		"a file, told by descriptors of several":      {mem: three, vfs: town(), files: []string{"rw 1.2 @40"}, procs: []string{"ready s0 fd0--0-", "ready s1 fd----0", "stops s2 ^1 fd-0---"}},
		"a folder, told by one descriptor":            {mem: emptyMem(0), vfs: town(), files: []string{"r 0.7 @999"}, procs: []string{"ready s0 fd--0--"}},
		"a folder, told by several descriptors":       {mem: two, vfs: town(), files: []string{"", "r 1.3"}, procs: []string{"ready s0 fd1-1--", "ready s1 fd1----"}},
		"the first folder is open":                    {mem: emptyMem(0), files: []string{"r 0.0"}, procs: []string{"ready s0 fd0----"}},
		"an end to read, told by one descriptor":      {mem: emptyMem(0), files: []string{"r |0"}, pipes: []string{"left"}, procs: []string{"ready s0 fd0----"}},
		"an end to write, told by one descriptor":     {mem: emptyMem(0), files: []string{"w |1"}, procs: []string{"ready s0 fd-0---"}},
		"both ends, told by several descriptors":      {mem: two, files: []string{"w |1", "r |1"}, procs: []string{"ready s0 fd-0-01", "ready s1 fd1010-"}},
		"a pipe has several readers and writers":      {mem: two, files: []string{"r |2", "r |2", "w |2", "w |2", "w |2", "r |2", "r |2"}, pipes: []string{"", "", "12345678"}, procs: []string{"ready s0 fd01234", "ready s1 fd56666"}},
		"a pipe has two readers":                      {mem: emptyMem(0), files: []string{"r |0", "r |0"}, procs: []string{"ready s0 fd01---"}},
		"a pipe has two writers":                      {mem: emptyMem(0), files: []string{"w |0", "w |0"}, procs: []string{"ready s0 fd01---"}},
		"one file is open to read, write, and at end": {mem: two, vfs: town(), files: []string{"r 0.2", "w 0.2", "rw 0.2", "re 0.2", "we 0.2", "rwe 0.2"}, procs: []string{"ready s0 fd01234", "ready s1 fd5----"}},
		"a file is open to do nothing":                {mem: emptyMem(0), vfs: town(), files: []string{"- 0.2", "e 0.2 @7"}, procs: []string{"ready s0 fd01---"}},
		"a file without a name":                       {mem: emptyMem(0), vfs: apart(withEdits(townFs(), setNames(3, "in:5"), setLinks(6, 0)), newFs(3, 0)), files: []string{"rw 0.6 @3"}, procs: []string{"ready s0 fd0----"}},
		"all open files and all descriptors":          {mem: emptyMem(0, 1, 2, 3, 4), vfs: town(), files: []string{"r 0.0", "r 0.2", "r 1.0", "w 1.2", "r |0", "w |0", "r |1", "w |1", "r |2", "w |2"}, procs: []string{"ready s0 fd01234", "ready s1 fd56789", "ready s2 fd01234", "ready s3 fd56789", "ready s4 fd00099"}},
		"a node told by open files":                   {mem: emptyMem(0), vfs: town(), files: []string{"r 0.5", "r 0.5", "r 0.5"}, procs: []string{"ready s0 fd00122"}},
		"a node told by folders of processes":         {mem: three, vfs: town(), procs: []string{"ready s0 in0.4", "ready s1 in0.4", "stops s2 in0.4"}},
		"a node told by open files and folders":       {mem: three, vfs: town(), files: []string{"r 1.1 @1", "r 1.1 @2"}, procs: []string{"ready s0 in1.1 fd01---", "ready s1 in1.1", "stops s2"}},
		"a node told by the mount":                    {mem: emptyMem(0), vfs: town(), procs: []string{"ready s0"}},
		"a node told by the mount, and all others":    {mem: two, vfs: town(), files: []string{"r 0.3", "", "r 0.3 @9"}, procs: []string{"ready s0 in0.3 fd02---", "ready s1 in0.3 fd--00-"}},
		"the first folder of the mounted one":         {mem: two, vfs: town(), files: []string{"r 1.0"}, procs: []string{"ready s0 in1.0 fd0----", "ready s1 in1.0"}},
		"a folder is open that others keep, too":      {mem: emptyMem(0), vfs: mounted(townFs(), 4, hillFs()), files: []string{"r 0.3", "r 0.4"}, procs: []string{"ready s0 in0.3 fd01---"}},
	}
}

// validKerns are those of validPlans, in order, one of them with signals.
func validKerns() []namedKern {
	plans, list := validPlans(), []namedKern{}
	for name := range plans {
		list = append(list, namedKern{name, kernOf(plans[name])})
	}
	slices.SortFunc(list, func(a, b namedKern) int { return strings.Compare(a.name, b.name) })
	for n, x := range list {
		if strings.HasPrefix(x.name, "signals") {
			list[n].kern.Procs[0].Sigs = sigsOf(allOf, allBut, "00444444")
			list[n].kern.Procs[1].Sigs = sigsOf("10000001", "00100100", "00014014")
		}
	}
	return list
}

// kernNamed is one of validKerns.
func kernNamed(name string) impl.Kern {
	for _, x := range validKerns() {
		if x.name == name {
			return x.kern
		}
	}
	panic("no kernel: " + name)
}

func cloneKern(k impl.Kern) impl.Kern {
	n := impl.Kern{Mem: cloneMem(k.Mem), Vfs: cloneVfs(k.Vfs), Files: slices.Clone(k.Files), Pipes: slices.Clone(k.Pipes), Procs: slices.Clone(k.Procs), Queue: cloneQueue(k.Queue)}
	for id, p := range n.Procs {
		p.Who, p.Fds, p.Sigs = cloneCred(p.Who), slices.Clone(p.Fds), cloneSigs(p.Sigs)
		n.Procs[id] = p
	}
	return n
}

func sameProc(a, b impl.Proc) bool {
	numbers := a.State == b.State && a.Parent == b.Parent && a.Code == b.Code && a.Space == b.Space && a.On == b.On && a.Dir == b.Dir
	return numbers && sameCred(a.Who, b.Who) && slices.Equal(a.Fds, b.Fds) && sameSigs(a.Sigs, b.Sigs)
}

func sameKern(a, b impl.Kern) bool {
	parts := sameMem(a.Mem, b.Mem) && sameVfs(a.Vfs, b.Vfs) && slices.Equal(a.Queue.Tasks, b.Queue.Tasks) && a.Queue.Floor == b.Queue.Floor
	return parts && slices.Equal(a.Files, b.Files) && slices.Equal(a.Pipes, b.Pipes) && slices.EqualFunc(a.Procs, b.Procs, sameProc)
}

// kernText tells a kernel for what a test reports.
func kernText(k impl.Kern) string {
	return fmt.Sprintf("memory %s\n%s\nopen files %+v\npipes %+v\nprocesses %+v\nqueue %s", memText(k.Mem), vfsText(k.Vfs), k.Files, k.Pipes, k.Procs, queueText(k.Queue))
}

func wantKern(t *testing.T, what string, got, want impl.Kern) {
	t.Helper()
	if !sameKern(got, want) {
		t.Fatalf("%s: got %s\nwant %s", what, kernText(got), kernText(want))
	}
}

// kernTold is what is told of a kernel.
type kernTold struct {
	ok    bool
	alive int
	use   [4]int
	next  int
}

// toldOf is what the program tells of a kernel.
func toldOf(k impl.Kern) kernTold {
	told := kernTold{ok: impl.KernOk(k), alive: impl.KernAlive(k), next: impl.KernNext(k)}
	told.use[0], told.use[1], told.use[2], told.use[3] = impl.KernUse(k)
	return told
}

// nothingTold is what is told of a kernel that is not valid.
func nothingTold() kernTold {
	return kernTold{ok: false, alive: -1, use: [4]int{-1, -1, -1, -1}, next: -1}
}

// wantTold checks all that is told of a kernel.
func wantTold(t *testing.T, what string, k impl.Kern, want kernTold) {
	t.Helper()
	if got := toldOf(k); got != want {
		t.Fatalf("%s: told %+v, want %+v: %s", what, got, want, kernText(k))
	}
}
