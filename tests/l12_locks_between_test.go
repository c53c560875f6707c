package tests

import (
	"fmt"
	"slices"
	"testing"

	"loop.example/quarterdeck/impl"
)

// lockMove is a step of a thread, and the lock behind it; where there is no lock the step fails, and the lock stays.
type lockMove struct {
	who  int
	lock string
}

// wantLockMoves checks steps one by one, and all of them as a run.
func wantLockMoves(t *testing.T, name, was string, moves []lockMove) {
	t.Helper()
	k, order, done := lockOf(was), []int{}, 0
	for n, x := range moves {
		want := k
		if x.lock != "" {
			want = lockOf(x.lock)
			done++
		}
		got, ok := impl.LockStep(k, x.who)
		wantLockAnd(t, fmt.Sprintf("%s: step %d, of %d of %s", name, n, x.who, lockText(k)), got, ok, want, x.lock != "")
		k, order = got, append(order, x.who)
	}
	got, n := impl.LockRun(lockOf(was), order)
	wantLockRan(t, name+": LockRun", got, n, k, done)
}

// A thread sees the word, another one gives the lock back, and the first one goes on.
func TestAThreadGivesTheLockBackBetweenTwoSteps(t *testing.T) {
	wantLockMoves(t, "it saw 1", "0: 0/1 0/1", []lockMove{
		{0, "1: 4/1 0/1"},
		{1, "1: 4/1 1s1/1"},
		{0, "0: 0/0 1s1/1"},
		{1, "0: 0/0 3/1"},
		{1, "2: 0/0 4/1"},
		{1, "1: 0/0 5/1"},
		{1, "0: 0/0 6/1"},
		{1, "0: 0/0 0/0"},
		{1, ""},
		{0, ""},
	})
	wantLockMoves(t, "it saw 1, and told that it may wait", "1: 4/2 1s1/1", []lockMove{
		{1, "2: 4/2 2/1"},
		{0, "1: 5/2 2/1"},
		{1, "1: 5/2 3/1"},
		{0, "0: 6/2 3/1"},
		{1, "2: 6/2 4/1"},
		{0, "2: 0/1 4/1"},
		{0, "2: 1s2/1 4/1"},
	})
	wantLockMoves(t, "it saw 1, and the other one takes it again", "1: 4/2 1s1/1", []lockMove{
		{0, "0: 0/1 1s1/1"},
		{0, "1: 4/1 1s1/1"},
		{1, "2: 4/1 2/1"},
		{1, "2: 4/1 3/1z > 1"},
		{0, "1: 5/1 3/1z > 1"},
		{0, "0: 6/1 3/1z > 1"},
		{0, "0: 0/0 3/1"},
	})
	wantLockMoves(t, "it saw 2", "2: 4/1 1s2/1", []lockMove{
		{0, "1: 5/1 1s2/1"},
		{1, "1: 5/1 2/1"},
		{1, "1: 5/1 3/1"},
		{1, "1: 5/1 1s1/1"},
		{0, "0: 6/1 1s1/1"},
		{1, "0: 6/1 3/1"},
		{0, "0: 0/0 3/1"},
	})
	wantLockMoves(t, "it saw 2, and the other one does all its steps", "2: 4/1 1s2/1", []lockMove{
		{0, "1: 5/1 1s2/1"},
		{0, "0: 6/1 1s2/1"},
		{0, "0: 0/0 1s2/1"},
		{1, "0: 0/0 2/1"},
		{1, "0: 0/0 3/1"},
		{1, "2: 0/0 4/1"},
	})
	wantLockMoves(t, "it saw 1, and a third one takes it", "1: 4/1 1s1/1 0/1", []lockMove{
		{0, "0: 0/0 1s1/1 0/1"},
		{2, "1: 0/0 1s1/1 4/1"},
		{1, "2: 0/0 2/1 4/1"},
		{2, "1: 0/0 2/1 5/1"},
		{1, "1: 0/0 3/1 5/1"},
		{2, "0: 0/0 3/1 6/1"},
		{2, "0: 0/0 3/1 0/0"},
		{1, "2: 0/0 4/1 0/0"},
	})
}

// Two threads see the word 1, and both tell that they may wait.
func TestTwoThreadsSeeTheWord1(t *testing.T) {
	wantLockMoves(t, "both fall asleep", "0: 0/1 0/1 0/1", []lockMove{
		{0, "1: 4/1 0/1 0/1"},
		{1, "1: 4/1 1s1/1 0/1"},
		{2, "1: 4/1 1s1/1 1s1/1"},
		{2, "2: 4/1 1s1/1 2/1"},
		{1, "2: 4/1 2/1 2/1"},
		{1, "2: 4/1 3/1z 2/1 > 1"},
		{2, "2: 4/1 3/1z 3/1z > 1 2"},
		{1, ""},
		{2, ""},
		{0, "1: 5/1 3/1z 3/1z > 1 2"},
		{0, "0: 6/1 3/1z 3/1z > 1 2"},
		{0, "0: 0/0 3/1 3/1z > 2"},
		{1, "2: 0/0 4/1 3/1z > 2"},
		{1, "1: 0/0 5/1 3/1z > 2"},
		{1, "0: 0/0 6/1 3/1z > 2"},
		{1, "0: 0/0 0/0 3/1"},
		{2, "2: 0/0 0/0 4/1"},
		{2, "1: 0/0 0/0 5/1"},
		{2, "0: 0/0 0/0 6/1"},
		{2, "0: 0/0 0/0 0/0"},
	})
	wantLockMoves(t, "and it is given back before both go on", "1: 4/1 1s1/1 1s1/1", []lockMove{
		{0, "0: 0/0 1s1/1 1s1/1"},
		{2, "0: 0/0 1s1/1 3/1"},
		{1, "0: 0/0 3/1 3/1"},
		{1, "2: 0/0 4/1 3/1"},
		{2, "2: 0/0 4/1 1s2/1"},
		{2, "2: 0/0 4/1 2/1"},
		{2, "2: 0/0 4/1 3/1z > 2"},
	})
	wantLockMoves(t, "and it is given back between them", "1: 4/1 1s1/1 1s1/1", []lockMove{
		{1, "2: 4/1 2/1 1s1/1"},
		{0, "1: 5/1 2/1 1s1/1"},
		{2, "2: 5/1 2/1 2/1"},
		{1, "2: 5/1 3/1z 2/1 > 1"},
		{0, "0: 6/1 3/1z 2/1 > 1"},
		{2, "0: 6/1 3/1z 3/1 > 1"},
		{2, "2: 6/1 3/1z 4/1 > 1"},
		{0, "2: 0/0 3/1 4/1"},
		{1, "2: 0/0 1s2/1 4/1"},
	})
}

// One falls asleep just as another one is about to wake somebody: ahead of each of its steps.
func TestAThreadFallsAsleepWhileAnotherOneWakes(t *testing.T) {
	wantLockMoves(t, "ahead of 4", "2: 4/1 2/1", []lockMove{
		{1, "2: 4/1 3/1z > 1"},
		{0, "1: 5/1 3/1z > 1"},
		{0, "0: 6/1 3/1z > 1"},
		{0, "0: 0/0 3/1"},
	})
	wantLockMoves(t, "between 4 and 5", "2: 4/1 2/1", []lockMove{
		{0, "1: 5/1 2/1"},
		{1, "1: 5/1 3/1"},
		{0, "0: 6/1 3/1"},
		{0, "0: 0/0 3/1"},
	})
	wantLockMoves(t, "between 4 and 5, and the word is 2 again", "2: 4/1 2/1 1s1/1", []lockMove{
		{0, "1: 5/1 2/1 1s1/1"},
		{2, "2: 5/1 2/1 2/1"},
		{1, "2: 5/1 3/1z 2/1 > 1"},
		{2, "2: 5/1 3/1z 3/1z > 1 2"},
		{0, "0: 6/1 3/1z 3/1z > 1 2"},
		{0, "0: 0/0 3/1 3/1z > 2"},
	})
	wantLockMoves(t, "between 5 and 6", "2: 4/1 2/1", []lockMove{
		{0, "1: 5/1 2/1"},
		{0, "0: 6/1 2/1"},
		{1, "0: 6/1 3/1"},
		{0, "0: 0/0 3/1"},
		{1, "2: 0/0 4/1"},
	})
	wantLockMoves(t, "behind 6", "2: 4/1 2/1", []lockMove{
		{0, "1: 5/1 2/1"},
		{0, "0: 6/1 2/1"},
		{0, "0: 0/0 2/1"},
		{1, "0: 0/0 3/1"},
	})
	wantLockMoves(t, "between 5 and 6, and a third one has taken it", "2: 4/1 2/1 3/1", []lockMove{
		{0, "1: 5/1 2/1 3/1"},
		{0, "0: 6/1 2/1 3/1"},
		{2, "2: 6/1 2/1 4/1"},
		{1, "2: 6/1 3/1z 4/1 > 1"},
		{0, "2: 0/0 3/1 4/1"},
		{1, "2: 0/0 1s2/1 4/1"},
		{1, "2: 0/0 2/1 4/1"},
		{1, "2: 0/0 3/1z 4/1 > 1"},
	})
	wantLockMoves(t, "while another one sleeps already, who is woken", "2: 4/1 2/1 3/1z > 2", []lockMove{
		{0, "1: 5/1 2/1 3/1z > 2"},
		{1, "1: 5/1 3/1 3/1z > 2"},
		{1, "1: 5/1 1s1/1 3/1z > 2"},
		{1, "2: 5/1 2/1 3/1z > 2"},
		{1, "2: 5/1 3/1z 3/1z > 2 1"},
		{0, "0: 6/1 3/1z 3/1z > 2 1"},
		{0, "0: 0/0 3/1z 3/1 > 1"},
		{2, "2: 0/0 3/1z 4/1 > 1"},
	})
}

// One that has turns left takes the lock before the one that it woke.
func TestAThreadIsWokenTooLate(t *testing.T) {
	wantLockMoves(t, "by the same one", "2: 4/2 3/1z > 1", []lockMove{
		{0, "1: 5/2 3/1z > 1"},
		{0, "0: 6/2 3/1z > 1"},
		{0, "0: 0/1 3/1"},
		{0, "1: 4/1 3/1"},
		{1, "1: 4/1 1s1/1"},
		{1, "2: 4/1 2/1"},
		{1, "2: 4/1 3/1z > 1"},
		{0, "1: 5/1 3/1z > 1"},
		{0, "0: 6/1 3/1z > 1"},
		{0, "0: 0/0 3/1"},
		{1, "2: 0/0 4/1"},
	})
	// While the word is 1 it does not tell of the two that sleep; the one that woke makes it 2 again.
	wantLockMoves(t, "while others sleep still", "0: 0/1 3/1 3/1z 3/1z > 3 2", []lockMove{
		{0, "1: 4/1 3/1 3/1z 3/1z > 3 2"},
		{0, "0: 0/0 3/1 3/1z 3/1z > 3 2"},
		{1, "2: 0/0 4/1 3/1z 3/1z > 3 2"},
		{1, "1: 0/0 5/1 3/1z 3/1z > 3 2"},
		{1, "0: 0/0 6/1 3/1z 3/1z > 3 2"},
		{1, "0: 0/0 0/0 3/1z 3/1 > 2"},
	})
}

// Three fall asleep in each order, and are woken in this order, one by one, each by the one ahead of it.
func TestSleepersAreWokenInOrder(t *testing.T) {
	for holder := range 4 {
		others := slices.DeleteFunc([]int{0, 1, 2, 3}, func(who int) bool { return who == holder })
		for _, line := range ordersOf(others) {
			what := fmt.Sprintf("%d holds, and %v fall asleep", holder, line)
			k := mustStep(t, mustNewLock(t, 4, 1), holder)
			for at, who := range line {
				k = mustStep(t, mustStep(t, mustStep(t, k, who), who), who)
				if !slices.Equal(k.Line, line[:at+1]) || !k.Threads[who].Asleep || k.Word != 2 {
					t.Fatalf("%s: behind %d there is %s", what, who, lockText(k))
				}
			}
			for at, who := range append([]int{holder}, line...) {
				if who != holder {
					k = mustStep(t, k, who)
				}
				k = mustStep(t, mustStep(t, k, who), who)
				if !slices.Equal(k.Line, line[min(at, 3):]) {
					t.Fatalf("%s: ahead of a wake by %d there is %s", what, who, lockText(k))
				}
				k = mustStep(t, k, who)
				if !slices.Equal(k.Line, line[min(at+1, 3):]) || k.Word != 0 || at < 3 && k.Threads[line[at]].Asleep {
					t.Fatalf("%s: behind a wake by %d there is %s", what, who, lockText(k))
				}
			}
			wantLock(t, what+": at the end", k, lockOf("0: 0/0 0/0 0/0 0/0"))
		}
	}
}

// Of each lock that can come and two of its threads: what one does between two steps of the other one is seen by it, and only the word, the line and waking are.
func TestEachStepBetweenTwoOthers(t *testing.T) {
	met := map[string]int{}
	for _, k := range slices.Concat(reachedLocks(t, 2, 2), reachedLocks(t, 3, 1), reachedLocks(t, 4, 1)) {
		for one := range k.Threads {
			ahead, ok := impl.LockStep(k, one)
			for other := range k.Threads {
				between, may := impl.LockStep(ahead, other)
				if one == other || !ok || !may {
					continue
				}
				what := fmt.Sprintf("%s: a step of %d between two of %d", lockText(k), other, one)
				got, done := impl.LockStep(between, one)
				ran, n := impl.LockRun(k, []int{one, other, one})
				steps := 2
				if done {
					steps++
				}
				wantLockRan(t, what, ran, n, got, steps)
				if impl.LockIn(between) > 1 || impl.LockIn(got) > 1 || impl.LockStuck(got) {
					t.Fatalf("%s leads to %s and %s", what, lockText(between), lockText(got))
				}
				switch was, is := ahead.Threads[one], between.Threads[one]; {
				case was == is && ahead.Word == between.Word:
					met["another one did nothing to it"]++
				case was == is:
					met["the word is another one"]++
				case was.Asleep && !is.Asleep && ahead.Threads[other].At == 6:
					met["it was woken"]++
				default:
					t.Fatalf("%s: then it is %s", what, threadText(is))
				}
			}
		}
	}
	for _, sort := range []string{"another one did nothing to it", "the word is another one", "it was woken"} {
		if met[sort] < 50 {
			t.Errorf("%s just %d times", sort, met[sort])
		}
	}
}
