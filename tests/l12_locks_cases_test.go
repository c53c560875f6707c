package tests

import (
	"fmt"
	"math"
	"slices"
	"strings"
	"testing"

	"loop.example/quarterdeck/impl"
)

func TestLockConstants(t *testing.T) {
	if impl.ThreadMax != 4 || impl.TurnMax != 3 {
		t.Errorf("the constants are %d and %d", impl.ThreadMax, impl.TurnMax)
	}
}

func TestLockNewCases(t *testing.T) {
	want := map[[2]int]string{
		{1, 0}: "0: 0/0", {1, 1}: "0: 0/1", {1, 2}: "0: 0/2", {1, 3}: "0: 0/3",
		{2, 0}: "0: 0/0 0/0", {2, 1}: "0: 0/1 0/1", {2, 2}: "0: 0/2 0/2", {2, 3}: "0: 0/3 0/3",
		{3, 0}: "0: 0/0 0/0 0/0", {3, 1}: "0: 0/1 0/1 0/1", {3, 2}: "0: 0/2 0/2 0/2", {3, 3}: "0: 0/3 0/3 0/3",
		{4, 0}: "0: 0/0 0/0 0/0 0/0", {4, 1}: "0: 0/1 0/1 0/1 0/1", {4, 2}: "0: 0/2 0/2 0/2 0/2", {4, 3}: "0: 0/3 0/3 0/3 0/3",
	}
	for _, n := range append(noThreads(), 0, 1, 2, 3, 4) {
		for _, turns := range append(noTurns(), 0, 1, 2, 3) {
			got, ok := impl.LockNew(n, turns)
			text, need := want[[2]int{n, turns}]
			wantLockAnd(t, fmt.Sprintf("LockNew of %d threads with %d turns", n, turns), got, ok, lockOrNothing(text), need)
		}
	}
}

func TestLockOkCases(t *testing.T) {
	for _, x := range []struct {
		name, lock string
		want       bool
	}{
		{"a new one", "0: 0/2 0/2", true},
		{"one thread", "0: 0/0", true},
		{"ThreadMax threads", "0: 0/0 0/1 0/2 0/3", true},
		{"one more than ThreadMax", "0: 0/0 0/0 0/0 0/0 0/0", false},
		{"no threads", "0:", false},
		{"no threads, held", "1:", false},
		{"held", "1: 4/1 0/1", true},
		{"held, and somebody may wait", "2: 4/1 0/1", true},
		{"held by nobody", "1: 0/1", true},
		{"held by nobody, and somebody may wait", "2: 0/1", true},
		{"free, though one is at 4", "0: 4/1", true},
		{"held by two", "1: 4/1 4/1", true},
		{"word 3", "3: 0/1", false},
		{"word -1", "-1: 0/1", false},
		{"at 1", "1: 1/1", true},
		{"at 1, saw 1", "1: 1s1/1", true},
		{"at 1, saw 2", "1: 1s2/1", true},
		{"at 1, saw 3", "1: 1s3/1", false},
		{"at 1, saw -1", "1: 1s-1/1", false},
		{"at 0, saw 1", "1: 0s1/1", false},
		{"at 0, saw 2, without turns", "1: 0s2/0", false},
		{"at 2, saw 2", "2: 2s2/1", false},
		{"at 3, saw 1", "2: 3s1/1", false},
		{"at 4, saw 1", "2: 4s1/1", false},
		{"at 5, saw 1", "2: 5s1/1", false},
		{"at 6, saw 1", "2: 6s1/1", false},
		{"at 2", "2: 2/1", true},
		{"at 3", "2: 3/1", true},
		{"at 5", "1: 5/1", true},
		{"at 6", "0: 6/1", true},
		{"at 7", "0: 7/1", false},
		{"at -1", "0: -1/1", false},
		{"TurnMax turns", "0: 4/3", true},
		{"one more than TurnMax", "0: 4/4", false},
		{"one more than TurnMax, at 0", "0: 0/4", false},
		{"-1 turns", "0: 0/-1", false},
		{"-1 turns, at 4", "0: 4/-1", false},
		{"no turns, at 1", "1: 1/0", false},
		{"no turns, at 2", "1: 2/0", false},
		{"no turns, at 3", "1: 3/0", false},
		{"no turns, at 4", "1: 4/0", false},
		{"no turns, at 5", "1: 5/0", false},
		{"no turns, at 6", "1: 6/0", false},
		{"no turns, the last one at 6", "1: 0/0 6/0", false},
		{"asleep", "2: 4/1 3/1z > 1", true},
		{"asleep, the word being 0", "0: 3/1z > 0", true},
		{"asleep, without turns", "0: 3/0z > 0", false},
		{"asleep at 0", "0: 0/1z > 0", false},
		{"asleep at 0, not in line", "0: 0/1z", false},
		{"asleep at 1", "2: 1/1z > 0", false},
		{"asleep at 2", "2: 2/1z > 0", false},
		{"asleep at 2, not in line", "2: 2/1z", false},
		{"asleep at 4", "2: 4/1z > 0", false},
		{"asleep at 5", "2: 5/1z > 0", false},
		{"asleep at 6", "2: 6/1z > 0", false},
		{"asleep, not in line", "2: 4/1 3/1z", false},
		{"asleep, twice in line", "2: 4/1 3/1z > 1 1", false},
		{"asleep, another one in line", "2: 4/1 3/1z > 0", false},
		{"asleep, with another one in line", "2: 4/1 3/1z > 1 0", false},
		{"awake, in line", "2: 4/1 3/1 > 1", false},
		{"two asleep, in order", "2: 3/1z 3/1z > 0 1", true},
		{"two asleep, the other order", "2: 3/1z 3/1z > 1 0", true},
		{"two asleep, one in line", "2: 3/1z 3/1z > 1", false},
		{"two asleep, one twice in line", "2: 3/1z 3/1z > 1 1", false},
		{"two asleep, one of them twice in line", "2: 3/1z 3/1z > 0 1 0", false},
		{"two asleep, a third one in line for one", "2: 3/1z 3/1 3/1z > 0 1", false},
		{"two asleep, a third one in line", "2: 3/1z 3/1 3/1z > 0 1 2", false},
		{"ThreadMax asleep", "1: 3/1z 3/2z 3/3z 3/1z > 2 0 3 1", true},
		{"no thread in line", "2: 4/1 3/1z > 2", false},
		{"no thread in line, below 0", "2: 4/1 3/1z > -1", false},
		{"no thread in line behind one", "2: 4/1 3/1z > 1 2", false},
		{"in line, nobody asleep", "0: 0/1 > 0", false},
		{"in line without threads", "0: > 0", false},
	} {
		if got := impl.LockOk(lockOf(x.lock)); got != x.want {
			t.Errorf("%s: LockOk of %s is %v", x.name, x.lock, got)
		}
	}
}

// lockSteps are all steps that a thread of two turns can do, alone: the word and the thread ahead of it and behind it.
func lockSteps() []string {
	return []string{
		"0: 0/2 -> 1: 4/2", "1: 0/2 -> 1: 1s1/2", "2: 0/2 -> 2: 1s2/2",
		"0: 1/2 -> 0: 3/2", "1: 1/2 -> 2: 2/2", "2: 1/2 -> 2: 2/2",
		"0: 1s1/2 -> 0: 3/2", "1: 1s1/2 -> 2: 2/2", "2: 1s1/2 -> 2: 2/2",
		"0: 1s2/2 -> 0: 2/2", "1: 1s2/2 -> 1: 2/2", "2: 1s2/2 -> 2: 2/2",
		"0: 2/2 -> 0: 3/2", "1: 2/2 -> 1: 3/2", "2: 2/2 -> 2: 3/2z > 0",
		"0: 3/2 -> 2: 4/2", "1: 3/2 -> 1: 1s1/2", "2: 3/2 -> 2: 1s2/2",
		"0: 4/2 -> 0: 0/1", "1: 4/2 -> 0: 0/1", "2: 4/2 -> 1: 5/2",
		"0: 5/2 -> 0: 6/2", "1: 5/2 -> 0: 6/2", "2: 5/2 -> 0: 6/2",
		"0: 6/2 -> 0: 0/1", "1: 6/2 -> 1: 0/1", "2: 6/2 -> 2: 0/1",
	}
}

// Each row of the table with each word, by LockStep and by LockRun.
func TestLockStepsOfOneThread(t *testing.T) {
	if len(lockSteps()) != 27 {
		t.Errorf("there are %d steps", len(lockSteps()))
	}
	for _, x := range lockSteps() {
		was, want, _ := strings.Cut(x, " -> ")
		got, ok := impl.LockStep(lockOf(was), 0)
		wantLockAnd(t, "LockStep of "+was, got, ok, lockOf(want), true)
		got, n := impl.LockRun(lockOf(was), []int{0})
		wantLockRan(t, "LockRun of "+was, got, n, lockOf(want), 1)
	}
}

// Who the others are does not change a step, but for those asleep: the one that falls asleep stands behind them, and the first one of them is woken.
func TestLockStepsAmongOthers(t *testing.T) {
	for _, x := range lockSteps() {
		was, want, _ := strings.Cut(x, " -> ")
		one, then := lockOf(was), lockOf(want)
		for _, others := range []string{"0: 0/0 0/3", "0: 4/1 4/2", "0: 3/3z 5/1 > 0", "0: 1s2/1 3/3z > 1", "0: 3/1z 3/2z > 1 0"} {
			for who := range 3 {
				k := lockOf(others)
				k.Word = one.Word
				k.Threads = slices.Insert(k.Threads, who, one.Threads[0])
				for at, sleeper := range k.Line {
					if sleeper >= who {
						k.Line[at]++
					}
				}
				need := lockWith(k, who, func(x *impl.Thread) { *x = then.Threads[0] })
				need.Word = then.Word
				if then.Threads[0].Asleep {
					need.Line = append(need.Line, who)
				}
				if one.Threads[0].At == 6 && len(need.Line) > 0 {
					need.Threads[need.Line[0]].Asleep = false
					need.Line = need.Line[1:]
				}
				got, ok := impl.LockStep(k, who)
				wantLockAnd(t, fmt.Sprintf("LockStep of %d of %s", who, lockText(k)), got, ok, need, true)
			}
		}
	}
}

func TestLockStepCases(t *testing.T) {
	for _, x := range []struct {
		name, was string
		who       int
		want      string
		ok        bool
	}{
		{"the last turn, nobody waits", "1: 4/1", 0, "0: 0/0", true},
		{"the last turn, the word being 0", "0: 4/1", 0, "0: 0/0", true},
		{"the last turn, one wakes", "0: 6/1 3/1z > 1", 0, "0: 0/0 3/1", true},
		{"the last turn, nobody wakes", "0: 6/1 3/1", 0, "0: 0/0 3/1", true},
		{"the first one of two wakes", "0: 6/3 3/1z 3/2z > 1 2", 0, "0: 0/2 3/1 3/2z > 2", true},
		{"the last one of two wakes, as it was first", "0: 6/3 3/1z 3/2z > 2 1", 0, "0: 0/2 3/1z 3/2 > 1", true},
		{"one of three wakes", "2: 3/1z 3/1z 6/1 3/1z > 3 0 1", 2, "2: 3/1z 3/1z 0/0 3/1 > 0 1", true},
		{"one falls asleep behind two", "2: 4/1 3/1z 2/1 3/1z > 3 1", 2, "2: 4/1 3/1z 3/1z 3/1z > 3 1 2", true},
		{"the last one that is awake falls asleep", "2: 2/1 3/1z > 1", 0, "2: 3/1z 3/1z > 1 0", true},
		{"one does not fall asleep, as the word is 1", "1: 5/1 2/1 3/1z > 2", 1, "1: 5/1 3/1 3/1z > 2", true},
		{"one does not fall asleep, as the word is 0", "0: 6/1 2/1 3/1z > 2", 1, "0: 6/1 3/1 3/1z > 2", true},
		{"one at 5, while others sleep", "1: 5/1 3/1z > 1", 0, "0: 6/1 3/1z > 1", true},
		{"one takes the lock from nobody, while others sleep", "0: 3/1 3/1z > 1", 0, "2: 4/1 3/1z > 1", true},
		{"a new one takes it, while others sleep", "0: 0/1 3/1z > 1", 0, "1: 4/1 3/1z > 1", true},
		{"one that woke takes a lock that is held", "1: 4/1 3/1", 1, "1: 4/1 1s1/1", true},
		{"one of two that hold gives it back", "1: 4/1 4/1", 1, "0: 4/1 0/0", true},
		{"the other one, too", "0: 4/1 0/0", 0, "0: 0/0 0/0", true},
		{"asleep", "2: 4/1 3/1z > 1", 1, "2: 4/1 3/1z > 1", false},
		{"asleep, the word being 0", "0: 0/0 3/1z > 1", 1, "0: 0/0 3/1z > 1", false},
		{"asleep, not the first one", "0: 3/2z 3/1z 0/3 > 0 1", 1, "0: 3/2z 3/1z 0/3 > 0 1", false},
		{"all asleep", "2: 3/1z 3/1z 3/1z 3/1z > 1 3 0 2", 3, "2: 3/1z 3/1z 3/1z 3/1z > 1 3 0 2", false},
		{"without turns", "0: 0/0", 0, "0: 0/0", false},
		{"without turns, held", "1: 4/1 0/0", 1, "1: 4/1 0/0", false},
		{"without turns, while one sleeps", "2: 0/0 3/1z > 1", 0, "2: 0/0 3/1z > 1", false},
		{"the number -1", "0: 0/1", -1, "", false},
		{"a number behind the last one", "0: 0/1", 1, "", false},
		{"a number behind the last one of three", "0: 0/1 0/1 0/1", 3, "", false},
		{"a number behind the last one of four", "0: 0/1 0/1 0/1 0/1", 4, "", false},
		{"the least number", "0: 0/1", math.MinInt, "", false},
		{"the greatest number", "0: 0/1", math.MaxInt, "", false},
		{"of no threads", "0:", 0, "", false},
		{"of five", "0: 0/1 0/1 0/1 0/1 0/1", 0, "", false},
		{"of word 3", "3: 0/1", 0, "", false},
		{"of word -1, at 4", "-1: 4/1", 0, "", false},
		{"of one at 7", "0: 7/1", 0, "", false},
		{"of another one at -1", "0: 0/1 -1/1", 0, "", false},
		{"of one without turns at 4", "1: 4/0", 0, "", false},
		{"of one with four turns", "0: 0/4", 0, "", false},
		{"of one that saw 3", "0: 1s3/1", 0, "", false},
		{"of one that saw 1 at 0", "0: 0s1/1", 0, "", false},
		{"of one asleep that is not in line", "2: 3/1z 4/1", 1, "", false},
		{"of one asleep at 2", "2: 2/1z 4/1 > 0", 1, "", false},
		{"of one twice in line", "0: 6/1 3/1z > 1 1", 0, "", false},
		{"of one awake in line", "0: 6/1 3/1 > 1", 0, "", false},
	} {
		got, ok := impl.LockStep(lockOf(x.was), x.who)
		wantLockAnd(t, "LockStep, "+x.name, got, ok, lockOrNothing(x.want), x.ok)
	}
}

func TestLockRunCases(t *testing.T) {
	for _, x := range []struct {
		name, was, order string
		n                int
		want             string
	}{
		{"of no steps", "0: 0/2 0/1", "", 0, "0: 0/2 0/1"},
		{"of no steps, while one sleeps", "2: 4/1 3/1z > 1", "", 0, "2: 4/1 3/1z > 1"},
		{"one after the other", "0: 0/1 0/1", "0 0 1 1", 4, "0: 0/0 0/0"},
		{"one that sleeps, and another one that holds", "0: 0/1 0/1", "0 1 1 1", 4, "2: 4/1 3/1z > 1"},
		{"one that sleeps does no step", "0: 0/1 0/1", "0 1 1 1 1 1", 4, "2: 4/1 3/1z > 1"},
		{"one that sleeps, and is woken", "0: 0/1 0/1", "0 1 1 1 1 0 0 0", 7, "0: 0/0 3/1"},
		{"one that is woken takes it", "0: 0/1 0/1", "0 1 1 1 0 0 0 1 1 1 1", 11, "0: 0/0 0/0"},
		{"one that has done all", "0: 0/1 0/1", "0 0 0 0 0", 2, "0: 0/0 0/1"},
		{"three turns alone", "0: 0/3", "0 0 0 0 0 0", 6, "0: 0/0"},
		{"three turns alone, and more", "0: 0/3", "0 0 0 0 0 0 0 0", 6, "0: 0/0"},
		{"only steps that fail", "0: 0/0 3/1z > 1", "0 1 1 0", 0, "0: 0/0 3/1z > 1"},
		{"only numbers of no thread", "0: 0/1 0/1", "-1 2 3 4 99 -99", 0, "0: 0/1 0/1"},
		{"numbers of no thread among others", "0: 0/1 0/1", "2 0 -1 1 7 1 4 1 -4", 4, "2: 4/1 3/1z > 1"},
		{"the least and the greatest number", "0: 0/1", fmt.Sprint(math.MinInt, " 0 ", math.MaxInt), 1, "1: 4/1"},
		{"no thread, of a lock that is not valid", "3: 0/1", "5", -1, ""},
		{"no steps, of a lock that is not valid", "0: 0/4", "", -1, ""},
		{"steps, of a lock that is not valid", "0: 0/1 4/0", "0 0", -1, ""},
		{"no steps, of no threads", "0:", "", -1, ""},
		{"steps, of five threads", "0: 0/1 0/1 0/1 0/1 0/1", "0", -1, ""},
		{"steps, of a line that lacks one", "2: 4/1 3/1z", "0 0", -1, ""},
		{"three that fall asleep, and the first one of them is woken", "2: 4/1 2/1 2/1 2/1", "2 3 1 0 0 0", 6, "0: 0/0 3/1z 3/1 3/1z > 3 1"},
	} {
		got, n := impl.LockRun(lockOf(x.was), numbersOf(x.order))
		wantLockRan(t, "LockRun, "+x.name, got, n, lockOrNothing(x.want), x.n)
	}
}

func TestLockInCases(t *testing.T) {
	for _, x := range []struct {
		name, lock string
		want       int
	}{
		{"a new one", "0: 0/1 0/1", 0},
		{"one that holds", "1: 4/1 0/1", 1},
		{"the last one", "2: 3/1z 1s2/1 2/1 4/3 > 0", 1},
		{"one on the way to give it back", "1: 5/1 0/1", 0},
		{"one that gave it back", "0: 6/1 0/1", 0},
		{"held by nobody", "1: 0/1", 0},
		{"held by one though the word is 0", "0: 4/1", 1},
		{"held by two", "1: 4/1 4/1", 2},
		{"held by three of four", "0: 4/1 5/1 4/2 4/3", 3},
		{"held by four", "2: 4/1 4/1 4/2 4/3", 4},
		{"of no threads", "0:", -1},
		{"of five", "1: 4/1 0/0 0/0 0/0 0/0", -1},
		{"of word 3", "3: 4/1", -1},
		{"of one without turns", "1: 4/0", -1},
		{"of one asleep", "1: 4/1z > 0", -1},
		{"of a line that lacks one", "2: 4/1 3/1z", -1},
	} {
		if got := impl.LockIn(lockOf(x.lock)); got != x.want {
			t.Errorf("%s: LockIn of %s is %d, want %d", x.name, x.lock, got, x.want)
		}
	}
}

func TestLockStuckCases(t *testing.T) {
	for _, x := range []struct {
		name, lock string
		want       bool
	}{
		{"a new one", "0: 0/1", false},
		{"a new one without turns", "0: 0/0 0/0", false},
		{"one asleep", "2: 3/1z > 0", true},
		{"one asleep, the word being 0", "0: 3/3z > 0", true},
		{"one asleep, another one without turns", "1: 0/0 3/1z > 1", true},
		{"one asleep, the others without turns", "1: 0/0 0/0 3/1z 0/0 > 2", true},
		{"all asleep", "2: 3/1z 3/1z 3/2z 3/3z > 2 0 3 1", true},
		{"one asleep, another one with a turn", "2: 3/1z 0/1 > 0", false},
		{"one asleep, another one awake at 3", "2: 3/1z 3/1 > 0", false},
		{"one asleep, another one at 1", "2: 3/1z 1s2/1 > 0", false},
		{"one asleep, another one at 2", "2: 3/1z 2/1 > 0", false},
		{"one asleep, another one at 4", "2: 3/1z 4/1 > 0", false},
		{"one asleep, another one at 5", "1: 3/1z 5/1 > 0", false},
		{"one asleep, another one at 6", "0: 3/1z 6/1 > 0", false},
		{"one asleep, the last one awake", "0: 3/1z 0/0 3/1z 0/1 > 0 2", false},
		{"one asleep, the first one awake", "0: 0/1 0/0 3/1z 3/1z > 3 2", false},
		{"held by nobody, nobody asleep", "1: 0/1 0/0", false},
		{"held by nobody, nobody with turns", "2: 0/0 0/0", false},
		{"one asleep that is not in line", "2: 3/1z", false},
		{"one asleep without turns", "2: 3/0z > 0", false},
		{"one asleep at 0", "2: 0/0z > 0", false},
		{"one asleep, word 3", "3: 3/1z > 0", false},
		{"one asleep, twice in line", "2: 3/1z > 0 0", false},
		{"five asleep", "2: 3/1z 3/1z 3/1z 3/1z 3/1z > 0 1 2 3 4", false},
		{"no threads", "0:", false},
	} {
		if got := impl.LockStuck(lockOf(x.lock)); got != x.want {
			t.Errorf("%s: LockStuck of %s is %v", x.name, x.lock, got)
		}
	}
}

// All locks of one thread, with one turn and with two, written out; of more threads their numbers alone.
func TestLockAllCases(t *testing.T) {
	locks := map[[2]int]int{
		{1, 1}: len([]string{"0: 0/1", "1: 4/1", "0: 0/0"}),
		{1, 2}: len([]string{"0: 0/2", "1: 4/2", "0: 0/1", "1: 4/1", "0: 0/0"}),
		{2, 1}: 51,
		{2, 2}: 223,
		{3, 1}: 738,
	}
	for _, n := range append(noThreads(), 0, 1, 2, 3, 4) {
		for _, turns := range append(noTurns(), 0, 1, 2, 3) {
			many, most, stuck, ok := impl.LockAll(n, turns)
			need, may := locks[[2]int{n, turns}]
			in := 0
			if may {
				in = 1
			}
			if many != need || most != in || stuck || ok != may {
				t.Errorf("LockAll of %d threads with %d turns told %d, %d, %v and %v, want %d, %d, false and %v", n, turns, many, most, stuck, ok, need, in, may)
			}
		}
	}
}
