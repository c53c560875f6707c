package tests

import (
	"fmt"
	"slices"
	"testing"

	"loop.example/quarterdeck/impl"
)

// lockAnswer is what a call of chapter 12 returns, as far as it returns it.
type lockAnswer struct {
	lock impl.Lock
	n    int
	ok   bool
}

// lockCall is a call of a function of chapter 12, told by a text.
type lockCall struct {
	name string
	do   func(k impl.Lock) lockAnswer
}

// lockCalls calls each function with some numbers of threads and some orders.
func lockCalls(threads []int, orders [][]int) []lockCall {
	list := []lockCall{
		{"LockOk", func(k impl.Lock) lockAnswer { return lockAnswer{ok: impl.LockOk(k)} }},
		{"LockIn", func(k impl.Lock) lockAnswer { return lockAnswer{n: impl.LockIn(k)} }},
		{"LockStuck", func(k impl.Lock) lockAnswer { return lockAnswer{ok: impl.LockStuck(k)} }},
	}
	for _, who := range threads {
		list = append(list, lockCall{fmt.Sprintf("LockStep of %d", who), func(k impl.Lock) lockAnswer {
			got, ok := impl.LockStep(k, who)
			return lockAnswer{lock: got, ok: ok}
		}})
	}
	for _, order := range orders {
		list = append(list, lockCall{fmt.Sprintf("LockRun of %v", order), func(k impl.Lock) lockAnswer {
			got, n := impl.LockRun(k, order)
			return lockAnswer{lock: got, n: n}
		}})
	}
	return list
}

// fewLockCalls are some of each sort, for numbers that some locks have and others have not.
func fewLockCalls() []lockCall {
	return lockCalls([]int{-1, 0, 1, 2, 3, 4}, [][]int{nil, {}, {-1}, {0}, {3, 2, 1, 0}, {0, 0, 1, 1, 1, 1, 2, 2, 2, 4, 3, 3, 3, 0, 0, 0, 1, 2, 3}})
}

// locksForMemory are locks with which memory is looked at: some that are valid, some that are not.
func locksForMemory() []namedLock {
	list := []namedLock{}
	for _, k := range append(fewLocks(), basicLocks()...) {
		list = append(list, namedLock{lockText(k), k})
	}
	for n, x := range invalidLocks() {
		if n%17 == 0 {
			list = append(list, x)
		}
	}
	return list
}

// roomyLock is the same lock with marks in the capacity behind its threads and its line, which a call must leave alone, too.
func roomyLock(k impl.Lock) impl.Lock {
	mark := impl.Thread{At: 71, Saw: 72, Turns: 73, Asleep: true}
	threads, line := append(slices.Clone(k.Threads), mark, mark, mark), append(slices.Clone(k.Line), 74, 75, 76, 77)
	return impl.Lock{Word: k.Word, Threads: threads[:len(k.Threads)], Line: line[:len(k.Line)]}
}

// wholeLock has all that the lists of a lock have up to their capacities.
func wholeLock(k impl.Lock) impl.Lock {
	return impl.Lock{Word: k.Word, Threads: k.Threads[:cap(k.Threads)], Line: k.Line[:cap(k.Line)]}
}

// scribbleLock overwrites all threads of a lock and all its line, up to their capacities.
func scribbleLock(k impl.Lock) {
	whole := wholeLock(k)
	for who := range whole.Threads {
		whole.Threads[who] = impl.Thread{At: -7, Saw: -7, Turns: -7}
	}
	scribbleIds(whole.Line)
}

// locksApart tells whether two locks share no memory.
func locksApart(a, b impl.Lock) bool {
	return listsApart(a.Threads, b.Threads) && listsApart(a.Line, b.Line)
}

func cloneLockAnswer(a lockAnswer) lockAnswer {
	return lockAnswer{cloneLock(a.lock), a.n, a.ok}
}

func wantLockAnswer(t *testing.T, what string, got, want lockAnswer) {
	t.Helper()
	if got.n != want.n {
		t.Fatalf("%s: told %d, want %d", what, got.n, want.n)
	}
	wantLockAnd(t, what, got.lock, got.ok, want.lock, want.ok)
}

func TestLockCallsDoNotPanic(t *testing.T) {
	try := func(name string, do func()) {
		defer func() {
			if r := recover(); r != nil {
				t.Errorf("%s panicked: %v", name, r)
			}
		}()
		do()
	}
	few := fewLockCalls()
	many := []namedLock{
		{"many threads", impl.Lock{Threads: make([]impl.Thread, 100000)}},
		{"a long line", impl.Lock{Threads: make([]impl.Thread, 4), Line: make([]int, 100000)}},
	}
	for _, k := range validLocks() {
		many = append(many, namedLock{lockText(k), k})
	}
	for _, x := range append(many, invalidLocks()...) {
		for _, c := range few {
			try(c.name+" of "+x.name, func() { c.do(x.lock) })
		}
	}
	calls := lockCalls(append(noThreads(), 0, 3), [][]int{noThreads(), append(noThreads(), 0, 1, 2, 3), make([]int, 100000)})
	for _, x := range locksForMemory() {
		for _, c := range calls {
			try(c.name+" of "+x.name, func() { c.do(x.lock) })
		}
	}
	// Great numbers everywhere at once, which must not become others by being added to each other.
	for _, great := range greatNumbers() {
		for _, other := range append(greatNumbers(), 0) {
			for _, asleep := range []bool{false, true} {
				k := impl.Lock{Word: great, Threads: []impl.Thread{{At: other, Saw: great, Turns: other, Asleep: asleep}}, Line: []int{great}}
				for _, c := range few {
					try(c.name+" of "+lockText(k), func() { c.do(k) })
				}
			}
			try(fmt.Sprintf("LockNew of %d and %d", great, other), func() { impl.LockNew(great, other) })
			try(fmt.Sprintf("LockNew of %d and %d", other, great), func() { impl.LockNew(other, great) })
			try(fmt.Sprintf("LockAll of %d and %d", great, other), func() { impl.LockAll(great, other) })
			try(fmt.Sprintf("LockAll of %d and %d", other, great), func() { impl.LockAll(other, great) })
		}
	}
}

func TestLockArgumentsAreNotChanged(t *testing.T) {
	calls := fewLockCalls()
	for _, x := range locksForMemory() {
		k := roomyLock(x.lock)
		was := cloneLock(wholeLock(k))
		for _, c := range calls {
			c.do(k)
			wantLock(t, c.name+" of "+x.name+" changed its argument", wholeLock(k), was)
		}
	}
}

// LockRun leaves its list alone, too, and keeps no part of it as a line.
func TestLockRunLeavesItsListAlone(t *testing.T) {
	for _, x := range locksForMemory() {
		for _, order := range [][]int{{}, {0}, {1, 0}, {0, 1, 1, 1, 2, 2, 2, -5, 9, 3, 3, 3}} {
			roomy := append(slices.Clone(order), 81, 82, 83)
			was := slices.Clone(roomy)
			got, n := impl.LockRun(x.lock, roomy[:len(order)])
			told := lockAnswer{lock: cloneLock(got), n: n}
			if !listsApart(got.Line, roomy) || !slices.Equal(roomy, was) {
				t.Fatalf("LockRun of %v of %s left %v", order, x.name, roomy)
			}
			scribbleIds(roomy)
			wantLockAnswer(t, fmt.Sprintf("LockRun of %v of %s: the list is in the result", order, x.name), lockAnswer{lock: got, n: n}, told)
		}
	}
}

func TestLockResultsShareNothingWithArguments(t *testing.T) {
	calls := fewLockCalls()
	for _, x := range locksForMemory() {
		for _, c := range calls {
			k := roomyLock(x.lock)
			was := cloneLock(wholeLock(k))
			got := c.do(k)
			if !locksApart(got.lock, k) {
				t.Fatalf("%s of %s: the result and the argument share memory", c.name, x.name)
			}
			scribbleLock(got.lock)
			wantLock(t, c.name+" of "+x.name+": the argument is in the result", wholeLock(k), was)
			got = c.do(k)
			told := cloneLockAnswer(got)
			scribbleLock(k)
			wantLockAnswer(t, c.name+" of "+x.name+": the result is in the argument", got, told)
		}
	}
}

// What is told is the same each time, and no result is in another one.
func TestLockResultsShareNothingWithEachOther(t *testing.T) {
	calls := fewLockCalls()
	for threads := 1; threads <= 4; threads++ {
		for turns := range 4 {
			calls = append(calls, lockCall{fmt.Sprintf("LockNew of %d and %d", threads, turns), func(k impl.Lock) lockAnswer {
				got, ok := impl.LockNew(threads, turns)
				return lockAnswer{lock: got, ok: ok}
			}})
		}
	}
	for _, x := range locksForMemory() {
		for _, c := range calls {
			one, two := c.do(x.lock), c.do(x.lock)
			told := cloneLockAnswer(two)
			wantLockAnswer(t, c.name+" of "+x.name+" again", one, two)
			if !locksApart(one.lock, two.lock) {
				t.Fatalf("%s of %s: results share memory", c.name, x.name)
			}
			scribbleLock(one.lock)
			wantLockAnswer(t, c.name+" of "+x.name+": a result is in another one", two, told)
		}
	}
}

// From one lock several ways are gone on, and none sees what goes on another one.
func TestLocksGoOnApart(t *testing.T) {
	for _, k := range reachedLocks(t, 3, 1) {
		was := cloneLock(k)
		behind := []impl.Lock{}
		for who := range k.Threads {
			next, _ := impl.LockStep(k, who)
			behind = append(behind, next)
		}
		told := []impl.Lock{}
		for _, next := range behind {
			told = append(told, cloneLock(next))
		}
		for n, next := range behind {
			for who := range k.Threads {
				got, _ := impl.LockStep(next, who)
				scribbleLock(got)
			}
			wantLock(t, fmt.Sprintf("%s, and a step of %d", lockText(was), n), next, told[n])
			wantLock(t, "the lock ahead of both", k, was)
		}
	}
}

// LockAll tells the same again, whatever was done with locks in between.
func TestLockAllTellsTheSameAgain(t *testing.T) {
	for _, x := range [][2]int{{1, 1}, {1, 2}, {2, 1}, {2, 2}, {3, 1}, {3, 2}, {0, 1}, {2, 3}} {
		many, most, stuck, ok := impl.LockAll(x[0], x[1])
		k, _ := impl.LockNew(x[0], x[1])
		scribbleLock(k)
		again, in, any, may := impl.LockAll(x[0], x[1])
		if many != again || most != in || stuck != any || ok != may {
			t.Errorf("LockAll of %d threads with %d turns told %d, %d, %v and %v, and then %d, %d, %v and %v", x[0], x[1], many, most, stuck, ok, again, in, any, may)
		}
	}
}

// No line and an empty one are the same.
func TestLocksOfEmptyLines(t *testing.T) {
	for _, text := range []string{"0: 0/1 0/1", "2: 4/1 2/1 2/1 0/3", "0: 6/1 3/1", "0:", "1: 4/0"} {
		none, empty, room := lockOf(text), lockOf(text), lockOf(text)
		none.Line, empty.Line, room.Line = nil, []int{}, make([]int, 0, 8)
		for _, c := range fewLockCalls() {
			want := c.do(none)
			wantLockAnswer(t, c.name+" of an empty line", c.do(empty), want)
			got := c.do(room)
			wantLockAnswer(t, c.name+" of an empty line with room", got, want)
			if !locksApart(got.lock, room) || slices.Max(room.Line[:8]) != 0 || none.Line != nil {
				t.Fatalf("%s of an empty line with room wrote to it, or keeps it", c.name)
			}
		}
	}
}
