package tests

import (
	"fmt"
	"math/rand"
	"slices"
	"strings"
	"testing"

	"loop.example/quarterdeck/impl"
)

// namedLock is a lock with a name for what a test reports.
type namedLock struct {
	name string
	lock impl.Lock
}

// threadOf is a thread of a text that has At and Turns: 4/2, or 1s2/3 with what it saw, or 3/1z asleep.
func threadOf(text string) impl.Thread {
	x := impl.Thread{Asleep: strings.HasSuffix(text, "z")}
	at, turns, _ := strings.Cut(strings.TrimSuffix(text, "z"), "/")
	at, saw, has := strings.Cut(at, "s")
	if !has {
		saw = "0"
	}
	if _, err := fmt.Sscan(at+" "+saw+" "+turns, &x.At, &x.Saw, &x.Turns); err != nil {
		panic(text + " is no thread")
	}
	return x
}

// threadText is what threadOf reads.
func threadText(x impl.Thread) string {
	text := fmt.Sprint(x.At)
	if x.Saw != 0 {
		text += fmt.Sprintf("s%d", x.Saw)
	}
	text += fmt.Sprintf("/%d", x.Turns)
	if x.Asleep {
		text += "z"
	}
	return text
}

// lockOf is a lock of a text that has the word, the threads and, behind >, the line: 2: 4/1 3/1z 3/2z > 2 1.
func lockOf(text string) impl.Lock {
	word, rest, _ := strings.Cut(text, ":")
	threads, line, _ := strings.Cut(rest, ">")
	k := impl.Lock{}
	if _, err := fmt.Sscan(word, &k.Word); err != nil {
		panic(text + " has no word")
	}
	for _, x := range strings.Fields(threads) {
		k.Threads = append(k.Threads, threadOf(x))
	}
	k.Line = numbersOf(line)
	return k
}

// numbersOf are the numbers of a text.
func numbersOf(text string) []int {
	list := []int{}
	for _, field := range strings.Fields(text) {
		var n int
		if _, err := fmt.Sscan(field, &n); err != nil {
			panic(field + " is no number")
		}
		list = append(list, n)
	}
	return list
}

// lockText is what lockOf reads, if there are not many threads.
func lockText(k impl.Lock) string {
	if len(k.Threads) > 12 || len(k.Line) > 12 {
		return fmt.Sprintf("%d: %d threads > %d of them", k.Word, len(k.Threads), len(k.Line))
	}
	text := fmt.Sprintf("%d:", k.Word)
	for _, x := range k.Threads {
		text += " " + threadText(x)
	}
	if len(k.Line) > 0 {
		text += " >"
	}
	for _, who := range k.Line {
		text += fmt.Sprintf(" %d", who)
	}
	return text
}

// lockOrNothing is a lock of a text, or, for none, nothing.
func lockOrNothing(text string) impl.Lock {
	if text == "" {
		return impl.Lock{}
	}
	return lockOf(text)
}

func cloneLock(k impl.Lock) impl.Lock {
	return impl.Lock{Word: k.Word, Threads: slices.Clone(k.Threads), Line: slices.Clone(k.Line)}
}

func sameLock(a, b impl.Lock) bool {
	return a.Word == b.Word && slices.Equal(a.Threads, b.Threads) && slices.Equal(a.Line, b.Line)
}

// lockWith is a copy of a lock in which a thread is another one.
func lockWith(k impl.Lock, who int, change func(x *impl.Thread)) impl.Lock {
	k = cloneLock(k)
	change(&k.Threads[who])
	return k
}

// lockWithLine is a copy of a lock with another line.
func lockWithLine(k impl.Lock, line ...int) impl.Lock {
	k = cloneLock(k)
	k.Line = line
	return k
}

// sleepersOf are the numbers of the threads of a lock that are asleep, in order.
func sleepersOf(k impl.Lock) []int {
	list := []int{}
	for who, x := range k.Threads {
		if x.Asleep {
			list = append(list, who)
		}
	}
	return list
}

// awakeAt is how many threads of a lock stand at one of some steps and are not asleep.
func awakeAt(k impl.Lock, steps ...int) int {
	many := 0
	for _, x := range k.Threads {
		if !x.Asleep && slices.Contains(steps, x.At) {
			many++
		}
	}
	return many
}

// turnsOf is how many turns the threads of a lock have, all together.
func turnsOf(k impl.Lock) int {
	turns := 0
	for _, x := range k.Threads {
		turns += x.Turns
	}
	return turns
}

// ordersOf are all orders of a list.
func ordersOf(list []int) [][]int {
	if len(list) == 0 {
		return [][]int{{}}
	}
	orders := [][]int{}
	for k, first := range list {
		for _, rest := range ordersOf(slices.Delete(slices.Clone(list), k, k+1)) {
			orders = append(orders, append([]int{first}, rest...))
		}
	}
	return orders
}

// allThreads are all threads that a lock may have.
func allThreads() []impl.Thread {
	list := []impl.Thread{{}}
	for turns := 1; turns <= 3; turns++ {
		for at := range 7 {
			list = append(list, impl.Thread{At: at, Turns: turns})
		}
		list = append(list, impl.Thread{At: 1, Saw: 1, Turns: turns}, impl.Thread{At: 1, Saw: 2, Turns: turns}, impl.Thread{At: 3, Turns: turns, Asleep: true})
	}
	return list
}

// locksOf are the valid locks of so many threads, with each word and each order of the line, or one for every so many lists of threads.
func locksOf(threads, every int) []impl.Lock {
	all, lists := allThreads(), 1
	for range threads {
		lists *= len(all)
	}
	list := []impl.Lock{}
	for n := 0; n < lists; n += every {
		k, rest := impl.Lock{}, n
		for range threads {
			k.Threads = append(k.Threads, all[rest%len(all)])
			rest /= len(all)
		}
		for _, line := range ordersOf(sleepersOf(k)) {
			for word := range 3 {
				list = append(list, impl.Lock{Word: word, Threads: k.Threads, Line: line})
			}
		}
	}
	return list
}

// sleepyLocks are valid locks of ThreadMax threads of which three or all are asleep, in each order.
func sleepyLocks() []impl.Lock {
	list := []impl.Lock{}
	for _, x := range append(allThreads(), impl.Thread{At: 3, Turns: 1, Asleep: true}) {
		for who := range 4 {
			k := impl.Lock{Threads: slices.Repeat([]impl.Thread{{At: 3, Turns: 2, Asleep: true}}, 4)}
			k.Threads[who] = x
			for n, line := range ordersOf(sleepersOf(k)) {
				list = append(list, impl.Lock{Word: n % 3, Threads: k.Threads, Line: line})
			}
		}
	}
	return list
}

// validLocks are all of one and of two threads, and many of three and four.
func validLocks() []impl.Lock {
	return slices.Concat(locksOf(1, 1), locksOf(2, 1), locksOf(3, 7), locksOf(4, 499), sleepyLocks())
}

// fewLocks has some of each sort, for tests that try much with each one.
func fewLocks() []impl.Lock {
	return slices.Concat(locksOf(1, 3), locksOf(2, 29), locksOf(3, 997), locksOf(4, 29989), []impl.Lock{
		lockOf("2: 4/1 3/1z 3/1z 3/1z > 3 1 2"), lockOf("0: 6/2 3/1z 0/0 3/3z > 3 1"), lockOf("2: 3/1z 3/1z > 1 0"),
		lockOf("1: 1s1/1 5/2 2/3 3/1z > 3"), lockOf("0: 0/0 0/0 0/0 0/0"), lockOf("1: 4/1 4/1 0/3 3/3"),
	})
}

// noWords are no words, and nothing that a thread could have seen.
func noWords() []int {
	return append(greatNumbers(), -256, -255, -3, -2, -1, 3, 4, 5, 255, 256, 257, 258, 1<<16+1, 1<<32, 1<<32+1, 1<<32+2)
}

// noSteps are no steps at which a thread could stand.
func noSteps() []int {
	return append(greatNumbers(), -256, -255, -7, -6, -2, -1, 7, 8, 9, 255, 256, 257, 259, 1<<16+3, 1<<32, 1<<32+3)
}

// noTurns are no numbers of turns.
func noTurns() []int {
	return append(greatNumbers(), -256, -255, -3, -2, -1, 4, 5, 6, 255, 256, 257, 1<<16+1, 1<<32, 1<<32+1)
}

// noThreads are numbers of no thread of any lock, among them those that one may have if they are cut to fewer bits.
func noThreads() []int {
	return append(greatNumbers(), -256, -255, -4, -3, -2, -1, 4, 5, 6, 255, 256, 257, 1<<16, 1<<32, 1<<32+1)
}

// basicLocks are valid locks to each of which a fault is added.
func basicLocks() []impl.Lock {
	return []impl.Lock{
		lockOf("0: 0/0"), lockOf("1: 4/3"), lockOf("2: 3/1z > 0"), lockOf("0: 1s2/2"),
		lockOf("1: 4/1 0/2"), lockOf("2: 5/1 3/2z > 1"), lockOf("0: 3/1z 3/3z > 1 0"),
		lockOf("2: 4/1 2/1 1s1/3"), lockOf("2: 3/1z 4/2 3/1z > 2 0"), lockOf("0: 6/3 3/1 0/0"),
		lockOf("0: 0/3 1/2 2/1 3/3"), lockOf("2: 3/1z 3/2z 4/1 3/3z > 1 3 0"), lockOf("0: 3/1z 3/1z 3/1z 3/1z > 3 2 1 0"),
		lockOf("1: 5/1 6/1 1s2/1 0/1"),
	}
}

// invalidLocks has locks each of which is not valid for just one cause.
func invalidLocks() []namedLock {
	list := []namedLock{}
	add := func(name string, k impl.Lock) {
		list = append(list, namedLock{name + ": " + lockText(k), k})
	}
	for _, k := range basicLocks() {
		for _, word := range noWords() {
			x := cloneLock(k)
			x.Word = word
			add("no word", x)
		}
		for who, was := range k.Threads {
			for _, turns := range noTurns() {
				add("no number of turns", lockWith(k, who, func(x *impl.Thread) { x.Turns = turns }))
			}
			if was.Asleep {
				continue
			}
			turns := max(was.Turns, 1)
			for _, at := range noSteps() {
				add("no step", lockWith(k, who, func(x *impl.Thread) { *x = impl.Thread{At: at, Turns: turns} }))
			}
			for _, saw := range noWords() {
				add("saw no word", lockWith(k, who, func(x *impl.Thread) { *x = impl.Thread{At: 1, Saw: saw, Turns: turns} }))
			}
			for at := range 7 {
				if at != 0 {
					add("no turns", lockWith(k, who, func(x *impl.Thread) { *x = impl.Thread{At: at} }))
				}
				if at != 1 {
					add("saw 1", lockWith(k, who, func(x *impl.Thread) { *x = impl.Thread{At: at, Saw: 1, Turns: turns} }))
					add("saw 2", lockWith(k, who, func(x *impl.Thread) { *x = impl.Thread{At: at, Saw: 2, Turns: turns} }))
				}
			}
		}
	}
	return slices.Concat(list, sleptAmiss(), linesAmiss(), locksOfOtherLengths())
}

// sleptAmiss are not valid as a thread is asleep that may not be, though Line has it.
func sleptAmiss() []namedLock {
	list := []namedLock{}
	add := func(name string, k impl.Lock) {
		list = append(list, namedLock{name + ": " + lockText(k), k})
	}
	for _, k := range basicLocks() {
		for who, was := range k.Threads {
			line := k.Line
			if !was.Asleep {
				line = append(slices.Clone(line), who)
			}
			turns := max(was.Turns, 1)
			for _, at := range []int{0, 1, 2, 4, 5, 6} {
				x := lockWith(k, who, func(x *impl.Thread) { *x = impl.Thread{At: at, Turns: turns, Asleep: true} })
				add("asleep at another step", lockWithLine(x, line...))
			}
			x := lockWith(k, who, func(x *impl.Thread) { *x = impl.Thread{At: 3, Asleep: true} })
			add("asleep without turns", lockWithLine(x, line...))
			x = lockWith(k, who, func(x *impl.Thread) { *x = impl.Thread{At: 3, Saw: 1, Turns: turns, Asleep: true} })
			add("asleep, and saw 1", lockWithLine(x, line...))
			x = lockWith(k, who, func(x *impl.Thread) { *x = impl.Thread{At: 0, Asleep: true} })
			add("asleep without a step that could be done", lockWithLine(x, line...))
		}
	}
	return list
}

// linesAmiss are not valid as their lines have not just the threads that are asleep, each once.
func linesAmiss() []namedLock {
	list := []namedLock{}
	add := func(name string, k impl.Lock, line ...int) {
		k = lockWithLine(k, line...)
		list = append(list, namedLock{name + ": " + lockText(k), k})
	}
	for _, k := range basicLocks() {
		for at := range len(k.Line) + 1 {
			for who, was := range k.Threads {
				if was.Asleep {
					add("one twice", k, slices.Insert(slices.Clone(k.Line), at, who)...)
				} else {
					add("one that is not asleep", k, slices.Insert(slices.Clone(k.Line), at, who)...)
				}
			}
			for _, who := range append(noThreads(), len(k.Threads)) {
				add("one that is no thread", k, slices.Insert(slices.Clone(k.Line), at, who)...)
			}
		}
		for at := range k.Line {
			add("one missing", k, slices.Delete(slices.Clone(k.Line), at, at+1)...)
			for who := range k.Threads {
				if who != k.Line[at] {
					x := slices.Clone(k.Line)
					x[at] = who
					add("another one instead", k, x...)
				}
			}
			for _, who := range append(noThreads(), len(k.Threads)) {
				x := slices.Clone(k.Line)
				x[at] = who
				add("none instead", k, x...)
			}
		}
		if len(k.Line) > 0 {
			add("all missing", k)
			add("all twice", k, append(slices.Clone(k.Line), k.Line...)...)
			add("all the first one", k, slices.Repeat(k.Line[:1], len(k.Line)+1)...)
		}
		add("very long", k, make([]int, 1000)...)
	}
	return list
}

// locksOfOtherLengths are not valid as they have no threads, or more than ThreadMax.
func locksOfOtherLengths() []namedLock {
	list := []namedLock{{"nothing", impl.Lock{}}, {"no threads, but one in line", impl.Lock{Word: 2, Line: []int{0}}}}
	for word := range 3 {
		list = append(list, namedLock{fmt.Sprint("no threads, word ", word), impl.Lock{Word: word, Threads: []impl.Thread{}}})
	}
	for _, many := range []int{5, 6, 7, 8, 12, 16, 64, 100, 1000} {
		for _, x := range []string{"0/0", "0/3", "2/1", "3/2"} {
			k := impl.Lock{Threads: slices.Repeat([]impl.Thread{threadOf(x)}, many)}
			list = append(list, namedLock{"too many threads: " + lockText(k), k})
		}
		k := impl.Lock{Word: 2, Threads: slices.Repeat([]impl.Thread{threadOf("3/1z")}, many)}
		k.Line = sleepersOf(k)
		list = append(list, namedLock{"too many threads, asleep: " + lockText(k), k})
		k = impl.Lock{Word: 1, Threads: append([]impl.Thread{threadOf("4/1")}, make([]impl.Thread, many-1)...)}
		list = append(list, namedLock{"too many threads, one of which holds: " + lockText(k), k})
	}
	return list
}

// randomLock is mostly valid.
func randomLock(r *rand.Rand) impl.Lock {
	k := impl.Lock{Word: r.Intn(3)}
	for range 1 + r.Intn(4) {
		x := pick(r, allThreads())
		if r.Intn(4) == 0 {
			x = impl.Thread{At: 3, Turns: 1 + r.Intn(3), Asleep: true}
		}
		k.Threads = append(k.Threads, x)
	}
	k.Line = pick(r, ordersOf(sleepersOf(k)))
	if r.Intn(4) > 0 {
		return k
	}
	x := &k.Threads[r.Intn(len(k.Threads))]
	switch r.Intn(7) {
	case 0:
		k.Word = pick(r, append(noWords(), 0, 1, 2))
	case 1:
		x.At = pick(r, append(noSteps(), 0, 1, 2, 3, 4, 5, 6))
	case 2:
		x.Saw = pick(r, append(noWords(), 1, 2, 1, 2))
	case 3:
		x.Turns = pick(r, append(noTurns(), 0, 0, 0, 3))
	case 4:
		x.Asleep = !x.Asleep
	case 5:
		k.Line = append(k.Line, r.Intn(len(k.Threads)))
	case 6:
		k.Line = k.Line[:r.Intn(len(k.Line)+1)]
	}
	return k
}

// reachedLocks are all different locks that come from a new one by steps in any order.
func reachedLocks(t *testing.T, threads, turns int) []impl.Lock {
	t.Helper()
	list := []impl.Lock{mustNewLock(t, threads, turns)}
	seen := map[string]bool{lockText(list[0]): true}
	for at := 0; at < len(list); at++ {
		for who := range threads {
			next, _ := impl.LockStep(list[at], who)
			if text := lockText(next); !seen[text] {
				list, seen[text] = append(list, next), true
			}
		}
	}
	return list
}

// manyReachedLocks are those of some threads and turns, whole, for tests of all steps that can come.
func manyReachedLocks(t *testing.T) []impl.Lock {
	t.Helper()
	list := []impl.Lock{}
	for _, x := range [][2]int{{1, 0}, {1, 1}, {1, 2}, {1, 3}, {2, 0}, {2, 1}, {2, 2}, {2, 3}, {3, 0}, {3, 1}, {3, 2}, {4, 0}, {4, 1}} {
		list = append(list, reachedLocks(t, x[0], x[1])...)
	}
	return list
}

// walkedLocks are the locks behind each step of long walks from new locks of three and four threads: each thread as often, or one seldom, or one for some steps and then another one.
func walkedLocks(t *testing.T) []impl.Lock {
	t.Helper()
	list := []impl.Lock{}
	for seed := range 300 {
		r := rand.New(rand.NewSource(int64(seed)))
		threads := 3 + seed%2
		k, seldom, who := mustNewLock(t, threads, 2+seed%3/2), r.Intn(threads), 0
		for range 150 {
			switch {
			case seed%5 < 2:
				who = r.Intn(threads)
			case seed%5 < 4 || r.Intn(3) == 0:
				if who = r.Intn(threads); who == seldom && r.Intn(10) > 0 {
					continue
				}
			}
			next, ok := impl.LockStep(k, who)
			if !ok {
				continue
			}
			k = next
			list = append(list, k)
		}
	}
	return list
}

func wantLock(t *testing.T, what string, got, want impl.Lock) {
	t.Helper()
	if !sameLock(got, want) {
		t.Fatalf("%s: got %s, want %s", what, lockText(got), lockText(want))
	}
}

// wantLockAnd checks what LockNew or LockStep returned.
func wantLockAnd(t *testing.T, what string, got impl.Lock, ok bool, want impl.Lock, need bool) {
	t.Helper()
	if ok != need {
		t.Fatalf("%s: told %v, want %v", what, ok, need)
	}
	wantLock(t, what, got, want)
}

// wantLockRan checks what LockRun returned.
func wantLockRan(t *testing.T, what string, got impl.Lock, n int, want impl.Lock, need int) {
	t.Helper()
	if n != need {
		t.Fatalf("%s: told %d steps, want %d", what, n, need)
	}
	wantLock(t, what, got, want)
}

func mustNewLock(t *testing.T, threads, turns int) impl.Lock {
	t.Helper()
	k, ok := impl.LockNew(threads, turns)
	if !ok {
		t.Fatalf("LockNew of %d threads with %d turns failed", threads, turns)
	}
	return k
}

// mustStep is a lock behind a step of a thread that can be done.
func mustStep(t *testing.T, k impl.Lock, who int) impl.Lock {
	t.Helper()
	next, ok := impl.LockStep(k, who)
	if !ok {
		t.Fatalf("LockStep of %d of %s failed", who, lockText(k))
	}
	return next
}
