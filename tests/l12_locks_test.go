package tests

import (
	"fmt"
	"math/rand"
	"slices"
	"testing"

	"loop.example/quarterdeck/impl"
)

// Promise 113.
func TestLockNewIsFree(t *testing.T) {
	for threads := 1; threads <= 4; threads++ {
		for turns := range 4 {
			k := mustNewLock(t, threads, turns)
			if !impl.LockOk(k) || impl.LockIn(k) != 0 || impl.LockStuck(k) || k.Word != 0 || len(k.Line) != 0 || len(k.Threads) != threads {
				t.Fatalf("LockNew of %d threads with %d turns is %s", threads, turns, lockText(k))
			}
			for who, x := range k.Threads {
				if x != (impl.Thread{Turns: turns}) {
					t.Fatalf("LockNew of %d threads with %d turns: %d is %s", threads, turns, who, threadText(x))
				}
				next, ok := impl.LockStep(k, who)
				if ok != (turns > 0) || impl.LockIn(next) != min(turns, 1) {
					t.Fatalf("LockNew of %d threads with %d turns: behind a step of %d it is %s", threads, turns, who, lockText(next))
				}
			}
		}
	}
}

// Promise 114.
func TestLockOkIsARunOfNoSteps(t *testing.T) {
	for _, order := range [][]int{nil, {}, {-1, 4, 5}, noThreads()} {
		for _, k := range validLocks() {
			got, n := impl.LockRun(k, order)
			if !impl.LockOk(k) {
				t.Fatalf("%s: it is not valid", lockText(k))
			}
			wantLockRan(t, fmt.Sprintf("%s: LockRun of %v", lockText(k), order), got, n, k, 0)
		}
		for _, x := range invalidLocks() {
			got, n := impl.LockRun(x.lock, order)
			if impl.LockOk(x.lock) {
				t.Fatalf("%s: it is valid", x.name)
			}
			wantLockRan(t, fmt.Sprintf("%s: LockRun of %v", x.name, order), got, n, impl.Lock{}, -1)
		}
	}
}

// Promise 115: the one that wakes is the first one of the line, and only a thread at 6 wakes it.
func TestLockStepChangesNoOtherThread(t *testing.T) {
	woken := 0
	for _, k := range append(validLocks(), manyReachedLocks(t)...) {
		for who, was := range k.Threads {
			got, ok := impl.LockStep(k, who)
			if !ok {
				wantLock(t, fmt.Sprintf("%s: LockStep of %d failed", lockText(k), who), got, k)
				if !was.Asleep && (was.At != 0 || was.Turns > 0) {
					t.Fatalf("%s: LockStep of %d failed", lockText(k), who)
				}
				continue
			}
			if !impl.LockOk(got) || was.Asleep || was.At == 0 && was.Turns == 0 {
				t.Fatalf("%s: LockStep of %d told %s", lockText(k), who, lockText(got))
			}
			for other, is := range got.Threads {
				need := k.Threads[other]
				if other != who && was.At == 6 && len(k.Line) > 0 && other == k.Line[0] {
					need.Asleep = false
					woken++
				}
				if other != who && is != need {
					t.Fatalf("%s: behind LockStep of %d %d is %s", lockText(k), who, other, threadText(is))
				}
			}
		}
	}
	if woken < 1000 {
		t.Errorf("just %d threads were woken", woken)
	}
}

// A step that is done leaves another lock, with one turn less just where the turn of the thread ends.
func TestLockStepTakesATurnAtItsEnd(t *testing.T) {
	for _, k := range append(validLocks(), manyReachedLocks(t)...) {
		for who, was := range k.Threads {
			got, ok := impl.LockStep(k, who)
			is := got.Threads[who]
			ends := ok && (was.At == 6 || was.At == 4 && k.Word != 2)
			switch {
			case ok && sameLock(got, k):
				t.Fatalf("%s: LockStep of %d changed nothing", lockText(k), who)
			case ends && (is.Turns != was.Turns-1 || is.At != 0 || turnsOf(got) != turnsOf(k)-1):
				t.Fatalf("%s: LockStep of %d told %s", lockText(k), who, lockText(got))
			case !ends && turnsOf(got) != turnsOf(k):
				t.Fatalf("%s: LockStep of %d told %s", lockText(k), who, lockText(got))
			}
		}
	}
}

// Promise 116.
func TestALockRunIsThatOfItsParts(t *testing.T) {
	r := rand.New(rand.NewSource(116))
	for _, k := range fewLocks() {
		for _, length := range []int{0, 1, 2, 7, 30} {
			order := []int{}
			for range length {
				order = append(order, pick(r, []int{0, 1, 2, 3, r.Intn(len(k.Threads)), -1, 4}))
			}
			whole, n := impl.LockRun(k, order)
			for first := range length + 1 {
				one, done := impl.LockRun(k, order[:first])
				two, more := impl.LockRun(one, order[first:])
				wantLockRan(t, fmt.Sprintf("%s: LockRun of %v and then %v", lockText(k), order[:first], order[first:]), two, done+more, whole, n)
			}
			k, done := k, 0
			for _, who := range order {
				if next, ok := impl.LockStep(k, who); ok {
					k, done = next, done+1
				}
			}
			wantLockRan(t, fmt.Sprintf("LockRun of %v, step by step", order), k, done, whole, n)
		}
	}
}

// Promise 117.
func TestLockInIsHowManyStandAt4(t *testing.T) {
	met := map[int]int{}
	for _, k := range append(validLocks(), manyReachedLocks(t)...) {
		many := 0
		for _, x := range k.Threads {
			if x.At == 4 {
				many++
			}
		}
		if got := impl.LockIn(k); got != many {
			t.Fatalf("LockIn of %s is %d", lockText(k), got)
		}
		met[many]++
	}
	for _, x := range invalidLocks() {
		if got := impl.LockIn(x.lock); got != -1 {
			t.Fatalf("%s: LockIn is %d", x.name, got)
		}
	}
	for many := range 4 {
		if met[many] < 10 {
			t.Errorf("there are just %d locks that %d threads hold", met[many], many)
		}
	}
}

// Promise 118, and the other way round.
func TestLockStuckHasNoStep(t *testing.T) {
	stuck, done := 0, 0
	for _, k := range append(validLocks(), manyReachedLocks(t)...) {
		steps := 0
		for who := -1; who <= len(k.Threads); who++ {
			if _, ok := impl.LockStep(k, who); ok {
				steps++
			}
		}
		if got := impl.LockStuck(k); got != (steps == 0 && len(sleepersOf(k)) > 0) {
			t.Fatalf("%s: %d steps can be done, and LockStuck is %v", lockText(k), steps, got)
		}
		switch {
		case impl.LockStuck(k):
			stuck++
		case steps == 0:
			done++
		}
	}
	for _, x := range invalidLocks() {
		if impl.LockStuck(x.lock) {
			t.Fatalf("%s: LockStuck holds", x.name)
		}
	}
	if stuck < 100 || done < 10 {
		t.Errorf("%d locks were stuck, and %d had no turns left", stuck, done)
	}
}

// Promise 119: and what LockAll counts is what LockStep leads to.
func TestLockAllCountsWhatStepsLeadTo(t *testing.T) {
	for _, x := range [][2]int{{1, 1}, {1, 2}, {2, 1}, {2, 2}, {3, 1}} {
		list := reachedLocks(t, x[0], x[1])
		in, stuck := 0, false
		for _, k := range list {
			in = max(in, impl.LockIn(k))
			stuck = stuck || impl.LockStuck(k)
		}
		many, most, any, ok := impl.LockAll(x[0], x[1])
		if !ok || many != len(list) || most != in || any != stuck || most != 1 || any {
			t.Errorf("LockAll of %d threads with %d turns told %d, %d, %v and %v, and steps lead to %d, %d and %v", x[0], x[1], many, most, any, ok, len(list), in, stuck)
		}
	}
}

// Promises 120 and 123: of all locks that come from new ones of some threads and turns, and of those of long walks from others. Who is on the way to wake is one that gives the lock back, or one that woke or does not sleep yet, and will do so.
func TestAtMostOneHoldsALock(t *testing.T) {
	free, held, onTheWay := 0, 0, 0
	for _, k := range append(manyReachedLocks(t), walkedLocks(t)...) {
		in := impl.LockIn(k)
		if in > 1 || in < 0 || in != awakeAt(k, 4) {
			t.Fatalf("%d threads hold %s", in, lockText(k))
		}
		if (k.Word == 0) != (awakeAt(k, 4, 5) == 0) {
			t.Fatalf("the word of %s is %d", lockText(k), k.Word)
		}
		sleeps := len(sleepersOf(k)) > 0
		if sleeps && k.Word != 2 && awakeAt(k, 1, 3, 5, 6) == 0 || impl.LockStuck(k) {
			t.Fatalf("nobody wakes who sleeps in %s", lockText(k))
		}
		switch {
		case sleeps && k.Word != 2:
			onTheWay++
		case k.Word == 0:
			free++
		default:
			held++
		}
	}
	if free < 500 || held < 500 || onTheWay < 500 {
		t.Errorf("%d locks were free, %d held, and for %d one was on the way", free, held, onTheWay)
	}
}

// roundsOf is each thread in turn, so many times.
func roundsOf(threads, times int) []int {
	round := []int{}
	for who := range threads {
		round = append(round, who)
	}
	return slices.Repeat(round, times)
}

// Promise 121.
func TestNobodySleepsForEver(t *testing.T) {
	for _, k := range append(manyReachedLocks(t), walkedLocks(t)...) {
		got, n := impl.LockRun(k, roundsOf(len(k.Threads), 200))
		want := impl.Lock{Threads: make([]impl.Thread, len(k.Threads))}
		if n < turnsOf(k) {
			t.Fatalf("%s: 200 rounds are %d steps", lockText(k), n)
		}
		wantLock(t, lockText(k)+": behind 200 rounds", got, want)
		if impl.LockIn(got) != 0 || impl.LockStuck(got) {
			t.Fatalf("%s: behind 200 rounds LockIn is %d and LockStuck %v", lockText(k), impl.LockIn(got), impl.LockStuck(got))
		}
	}
}

// Promise 122.
func TestALockOfOneThread(t *testing.T) {
	for turns := range 4 {
		k := mustNewLock(t, 1, turns)
		got, n := impl.LockRun(k, make([]int, 20))
		wantLockRan(t, fmt.Sprintf("%d turns at once", turns), got, n, lockOf("0: 0/0"), 2*turns)
		for left := turns; left > 0; left-- {
			k = mustStep(t, k, 0)
			wantLock(t, "behind the first step of a turn", k, lockOf(fmt.Sprintf("1: 4/%d", left)))
			if impl.LockIn(k) != 1 {
				t.Errorf("LockIn of %s is %d", lockText(k), impl.LockIn(k))
			}
			k = mustStep(t, k, 0)
			wantLock(t, "behind the second step of a turn", k, lockOf(fmt.Sprintf("0: 0/%d", left-1)))
		}
		got, ok := impl.LockStep(k, 0)
		wantLockAnd(t, "a step without turns", got, ok, lockOf("0: 0/0"), false)
	}
}

func TestLockCallsOfInvalidLocks(t *testing.T) {
	for _, x := range invalidLocks() {
		if impl.LockOk(x.lock) || impl.LockIn(x.lock) != -1 || impl.LockStuck(x.lock) {
			t.Fatalf("%s: LockOk is %v, LockIn %d and LockStuck %v", x.name, impl.LockOk(x.lock), impl.LockIn(x.lock), impl.LockStuck(x.lock))
		}
		for _, who := range append(noThreads(), 0, 1, 2, 3) {
			got, ok := impl.LockStep(x.lock, who)
			wantLockAnd(t, fmt.Sprintf("%s: LockStep of %d", x.name, who), got, ok, impl.Lock{}, false)
			got, n := impl.LockRun(x.lock, []int{who, 0})
			wantLockRan(t, fmt.Sprintf("%s: LockRun of %d and 0", x.name, who), got, n, impl.Lock{}, -1)
		}
	}
}

// Numbers of no thread, of locks that are valid: LockStep fails with nothing, LockRun leaves them out.
func TestLockCallsOfNoThreads(t *testing.T) {
	for _, k := range fewLocks() {
		for _, who := range append(noThreads(), len(k.Threads)) {
			got, ok := impl.LockStep(k, who)
			wantLockAnd(t, fmt.Sprintf("%s: LockStep of %d", lockText(k), who), got, ok, impl.Lock{}, false)
			got, n := impl.LockRun(k, []int{who, who})
			wantLockRan(t, fmt.Sprintf("%s: LockRun of %d", lockText(k), who), got, n, k, 0)
			want, ok := impl.LockStep(k, 0)
			need := 0
			if ok {
				need = 1
			}
			got, n = impl.LockRun(k, []int{who, 0, who})
			wantLockRan(t, fmt.Sprintf("%s: LockRun of %d, 0 and %d", lockText(k), who, who), got, n, want, need)
		}
	}
}
