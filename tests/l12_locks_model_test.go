package tests

import (
	"fmt"
	"math/rand"
	"slices"
	"strings"
	"testing"

	"loop.example/quarterdeck/impl"
)

// lockRow tells what a step does: where the thread stands then, the word, and what it saw of it, and whether it falls asleep, wakes another one, or has one turn less.
type lockRow struct {
	at, word, saw        int
	sleeps, wakes, turns bool
}

// lockRows has the row of each step, each word and all that the thread may have seen, by these.
func lockRows() map[[3]int]lockRow {
	rows := map[[3]int]lockRow{
		{0, 0, 0}: {at: 4, word: 1},
		{0, 1, 0}: {at: 1, word: 1, saw: 1},
		{0, 2, 0}: {at: 1, word: 2, saw: 2},
		{1, 0, 0}: {at: 3, word: 0},
		{1, 1, 0}: {at: 2, word: 2},
		{1, 2, 0}: {at: 2, word: 2},
		{1, 0, 2}: {at: 2, word: 0},
		{1, 1, 2}: {at: 2, word: 1},
		{1, 2, 2}: {at: 2, word: 2},
		{2, 0, 0}: {at: 3, word: 0},
		{2, 1, 0}: {at: 3, word: 1},
		{2, 2, 0}: {at: 3, word: 2, sleeps: true},
		{3, 0, 0}: {at: 4, word: 2},
		{3, 1, 0}: {at: 1, word: 1, saw: 1},
		{3, 2, 0}: {at: 1, word: 2, saw: 2},
		{4, 0, 0}: {at: 0, word: 0, turns: true},
		{4, 1, 0}: {at: 0, word: 0, turns: true},
		{4, 2, 0}: {at: 5, word: 1},
	}
	for word := range 3 {
		// To have seen 1 is as to have seen 0, which no thread can.
		rows[[3]int{1, word, 1}] = rows[[3]int{1, word, 0}]
		rows[[3]int{5, word, 0}] = lockRow{at: 6}
		rows[[3]int{6, word, 0}] = lockRow{word: word, wakes: true, turns: true}
	}
	return rows
}

// modelLock is a lock whose line is a text of the numbers of its threads.
type modelLock struct {
	word    int
	threads map[rune]impl.Thread
	line    string
}

// lockModelOf has a valid lock, and true; it fails if the lock is not valid.
func lockModelOf(k impl.Lock) (modelLock, bool) {
	m := modelLock{word: k.Word, threads: map[rune]impl.Thread{}}
	if k.Word < 0 || k.Word > 2 || len(k.Threads) == 0 || len(k.Threads) > 4 {
		return m, false
	}
	all := allThreads()
	for who, x := range k.Threads {
		if !slices.Contains(all, x) {
			return m, false
		}
		m.threads['0'+rune(who)] = x
	}
	for _, who := range k.Line {
		if who < 0 || who > 3 || strings.ContainsRune(m.line, '0'+rune(who)) {
			return m, false
		}
		m.line += string('0' + rune(who))
	}
	for who := range rune(4) {
		if m.threads['0'+who].Asleep != strings.ContainsRune(m.line, '0'+who) {
			return m, false
		}
	}
	return m, true
}

// lock is lockModelOf back.
func (m modelLock) lock() impl.Lock {
	k := impl.Lock{Word: m.word}
	for who := range rune(len(m.threads)) {
		k.Threads = append(k.Threads, m.threads['0'+who])
	}
	for _, who := range m.line {
		k.Line = append(k.Line, int(who-'0'))
	}
	return k
}

// step does a step of a thread by the rows, if it can be done.
func (m *modelLock) step(rows map[[3]int]lockRow, who rune) bool {
	x := m.threads[who]
	if x.Asleep || x.At == 0 && x.Turns == 0 {
		return false
	}
	row := rows[[3]int{x.At, m.word, x.Saw}]
	m.word = row.word
	x.At, x.Saw, x.Asleep = row.at, row.saw, row.sleeps
	if row.turns {
		x.Turns--
	}
	m.threads[who] = x
	if row.sleeps {
		m.line += string(who)
	}
	if row.wakes && m.line != "" {
		first := []rune(m.line)[0]
		woken := m.threads[first]
		woken.Asleep = false
		m.threads[first], m.line = woken, m.line[1:]
	}
	return true
}

func modelLockStep(rows map[[3]int]lockRow, k impl.Lock, who int) (impl.Lock, bool) {
	m, ok := lockModelOf(k)
	if !ok || who < 0 || who >= len(k.Threads) {
		return impl.Lock{}, false
	}
	done := m.step(rows, '0'+rune(who))
	return m.lock(), done
}

func modelLockRun(rows map[[3]int]lockRow, k impl.Lock, order []int) (impl.Lock, int) {
	m, ok := lockModelOf(k)
	if !ok {
		return impl.Lock{}, -1
	}
	done := 0
	for _, who := range order {
		if who >= 0 && who < len(k.Threads) && m.step(rows, '0'+rune(who)) {
			done++
		}
	}
	return m.lock(), done
}

// modelLockAll searches depth first, by texts.
func modelLockAll(rows map[[3]int]lockRow, threads, turns int) (int, int, bool) {
	first := impl.Lock{Threads: slices.Repeat([]impl.Thread{{Turns: turns}}, threads)}
	seen, most, stuck := map[string]bool{}, 0, false
	var visit func(k impl.Lock)
	visit = func(k impl.Lock) {
		if seen[lockText(k)] {
			return
		}
		seen[lockText(k)] = true
		most = max(most, awakeAt(k, 4))
		done := 0
		for who := range threads {
			next, ok := modelLockStep(rows, k, who)
			if ok {
				done++
				visit(next)
			}
		}
		stuck = stuck || done == 0 && len(sleepersOf(k)) > 0
	}
	visit(first)
	return len(seen), most, stuck
}

// wantLockLikeModel checks all that is asked of a lock alone, and a step of each of its threads and of others.
func wantLockLikeModel(t *testing.T, rows map[[3]int]lockRow, k impl.Lock) {
	t.Helper()
	_, valid := lockModelOf(k)
	if impl.LockOk(k) != valid {
		t.Fatalf("%s: LockOk is %v", lockText(k), impl.LockOk(k))
	}
	in, stuck := -1, valid && len(sleepersOf(k)) > 0
	if valid {
		in = awakeAt(k, 4)
	}
	for who := -1; who <= 4; who++ {
		want, need := modelLockStep(rows, k, who)
		got, ok := impl.LockStep(k, who)
		if ok != need || !sameLock(got, want) {
			t.Fatalf("%s: LockStep of %d told %s and %v, want %s and %v", lockText(k), who, lockText(got), ok, lockText(want), need)
		}
		stuck = stuck && !need
	}
	if impl.LockIn(k) != in || impl.LockStuck(k) != stuck {
		t.Fatalf("%s: LockIn is %d and LockStuck %v, want %d and %v", lockText(k), impl.LockIn(k), impl.LockStuck(k), in, stuck)
	}
}

func wantLockRunLikeModel(t *testing.T, rows map[[3]int]lockRow, k impl.Lock, order []int) int {
	t.Helper()
	want, need := modelLockRun(rows, k, order)
	got, n := impl.LockRun(k, order)
	wantLockRan(t, fmt.Sprintf("%s: LockRun of %v", lockText(k), order), got, n, want, need)
	return n
}

func TestLocksAreLikeTheModel(t *testing.T) {
	rows := lockRows()
	if len(rows) != 27 {
		t.Errorf("the model has %d rows", len(rows))
	}
	for _, k := range validLocks() {
		wantLockLikeModel(t, rows, k)
	}
	for _, x := range invalidLocks() {
		wantLockLikeModel(t, rows, x.lock)
	}
	for _, k := range manyReachedLocks(t) {
		wantLockLikeModel(t, rows, k)
	}
}

func TestRandomLocksAreLikeTheModel(t *testing.T) {
	r, rows, valid := rand.New(rand.NewSource(12)), lockRows(), map[bool]int{}
	for range 50000 {
		k := randomLock(r)
		wantLockLikeModel(t, rows, k)
		order := []int{}
		for range r.Intn(20) {
			order = append(order, pick(r, []int{0, 1, 2, 3, r.Intn(6) - 1}))
		}
		wantLockRunLikeModel(t, rows, k, order)
		valid[impl.LockOk(k)]++
	}
	if valid[true] < 20000 || valid[false] < 5000 {
		t.Errorf("%d locks were valid and %d not", valid[true], valid[false])
	}
}

// Runs from new locks of all threads and turns, in orders of all sorts, with numbers of no thread among them.
func TestLockRunsAreLikeTheModel(t *testing.T) {
	rows, slept, ended := lockRows(), 0, 0
	for threads := 1; threads <= 4; threads++ {
		for turns := range 4 {
			for seed := range 200 {
				r := rand.New(rand.NewSource(int64(seed)))
				order := []int{}
				for range r.Intn(20 + 65*(seed%3)) {
					order = append(order, r.Intn(threads))
					if r.Intn(10) == 0 {
						order = append(order, pick(r, noThreads()))
					}
					if seed%3 == 0 {
						order = append(order, slices.Repeat(order[len(order)-1:], r.Intn(4))...)
					}
				}
				k := mustNewLock(t, threads, turns)
				wantLockRunLikeModel(t, rows, k, order)
				k, _ = impl.LockRun(k, order)
				slept += len(k.Line)
				if turnsOf(k) == 0 {
					ended++
				}
			}
		}
	}
	if slept < 300 || ended < 300 {
		t.Errorf("at the end of runs %d slept, and %d runs went to the end", slept, ended)
	}
}

func TestLockAllIsLikeTheModel(t *testing.T) {
	rows := lockRows()
	for _, x := range [][2]int{{1, 1}, {1, 2}, {2, 1}, {2, 2}, {3, 1}} {
		many, most, stuck := modelLockAll(rows, x[0], x[1])
		gotMany, gotMost, gotStuck, ok := impl.LockAll(x[0], x[1])
		if gotMany != many || gotMost != most || gotStuck != stuck || !ok {
			t.Errorf("LockAll of %d threads with %d turns told %d, %d, %v and %v, want %d, %d and %v", x[0], x[1], gotMany, gotMost, gotStuck, ok, many, most, stuck)
		}
	}
}
