package tests

import (
	"fmt"
	"math/rand"
	"slices"
	"strings"
	"testing"

	"loop.example/quarterdeck/impl"
)

// namedQueue is a queue with a name for what a test reports.
type namedQueue struct {
	name  string
	queue impl.Queue
}

// queueOf is a queue of a text that has Floor and then the tasks: 7/2:30 is the task 7 of weight 2, which costs 30 and is ready, 7/2:30z the same one asleep.
func queueOf(text string) impl.Queue {
	floor, rest, _ := strings.Cut(text, ":")
	q := impl.Queue{}
	if _, err := fmt.Sscan(floor, &q.Floor); err != nil {
		panic(text + " has no Floor")
	}
	for _, word := range strings.Fields(rest) {
		task := impl.Task{Ready: !strings.HasSuffix(word, "z")}
		if _, err := fmt.Sscanf(word, "%d/%d:%d", &task.Id, &task.Weight, &task.Cost); err != nil {
			panic(word + " is no task")
		}
		q.Tasks = append(q.Tasks, task)
	}
	return q
}

// queueText is what queueOf reads, if there are not many tasks.
func queueText(q impl.Queue) string {
	if len(q.Tasks) > 12 {
		return fmt.Sprintf("%d: %d tasks", q.Floor, len(q.Tasks))
	}
	text := fmt.Sprintf("%d:", q.Floor)
	for _, task := range q.Tasks {
		text += fmt.Sprintf(" %d/%d:%d", task.Id, task.Weight, task.Cost)
		if !task.Ready {
			text += "z"
		}
	}
	return text
}

func cloneQueue(q impl.Queue) impl.Queue {
	return impl.Queue{Tasks: slices.Clone(q.Tasks), Floor: q.Floor}
}

// queueWith is a copy of a queue in which the task at a place is another one.
func queueWith(q impl.Queue, at int, change func(task *impl.Task)) impl.Queue {
	q = cloneQueue(q)
	change(&q.Tasks[at])
	return q
}

// placeOf is the place of a task of a queue, or -1.
func placeOf(q impl.Queue, id int) int {
	return slices.IndexFunc(q.Tasks, func(task impl.Task) bool { return task.Id == id })
}

// taskOf is a task of a queue, which has it.
func taskOf(q impl.Queue, id int) impl.Task {
	return q.Tasks[placeOf(q, id)]
}

// idsOf are the numbers of all tasks of a queue.
func idsOf(q impl.Queue) []int {
	ids := []int{}
	for _, task := range q.Tasks {
		ids = append(ids, task.Id)
	}
	return ids
}

// tickOf is what a tick costs a task of a weight.
func tickOf(weight int) int {
	return []int{60, 30, 20, 15, 12, 10}[weight-1]
}

// idLists are numbers of tasks, from none to TaskMax.
func idLists() [][]int {
	return [][]int{{}, {0}, {99}, {7}, {3, 4}, {0, 99}, {1, 50, 98}, {10, 20, 30, 40}, {5, 6, 7, 8, 9}, {0, 1, 2, 3, 4, 5}, {94, 95, 96, 97, 98, 99}, {0, 19, 38, 57, 76, 99}}
}

// floorsToTry are from 0 to ShareTop, at which no tick can be given, those too from where few can.
func floorsToTry() []int {
	return []int{0, 1, 30, 1000, 999940, 999941, 999990, 999999, 1000000}
}

// weightLists are weights of TaskMax tasks, of which a queue with less has the first ones.
func weightLists() [][]int {
	return [][]int{{1, 1, 1, 1, 1, 1}, {1, 2, 3, 4, 5, 6}, {6, 5, 4, 3, 2, 1}, {6, 6, 1, 6, 1, 6}}
}

// costLists are how much more than Floor, or less, tasks cost: all as much, ascending, descending, some as much as others, one much more.
func costLists() [][]int {
	return [][]int{{0, 0, 0, 0, 0, 0}, {0, 1, 2, 10, 30, 60}, {60, 59, 30, 20, 10, 1}, {60, 60, 30, 30, 60, 30}, {0, 500, 1, 60, 500, 60}}
}

// sleepLists tell who is asleep, z, and then costs so much less than Floor, if that can be.
func sleepLists() []string {
	return []string{"------", "z-----", "-z-z-z", "zzzzz-", "-zzzzz", "zzzzzz"}
}

// queueFrom is a valid queue of such numbers, weights and costs, no cost being out of its range.
func queueFrom(floor int, ids, weights, costs []int, asleep string) impl.Queue {
	q := impl.Queue{Floor: floor}
	for k, id := range ids {
		task := impl.Task{Id: id, Weight: weights[k], Cost: min(floor+costs[k], 1000000), Ready: asleep[k] != 'z'}
		if !task.Ready && k%2 == 1 {
			task.Cost = max(floor-costs[k], 0)
		}
		q.Tasks = append(q.Tasks, task)
	}
	return q
}

// queuesFrom has a valid queue of each of some numbers and some Floors, with each of the weights, costs and sleepers.
func queuesFrom(lists [][]int, floors []int) []namedQueue {
	list, seen := []namedQueue{}, map[string]bool{}
	for _, ids := range lists {
		for _, floor := range floors {
			for _, weights := range weightLists() {
				for _, costs := range costLists() {
					for _, asleep := range sleepLists() {
						q := queueFrom(floor, ids, weights, costs, asleep)
						if name := queueText(q); !seen[name] {
							list, seen[name] = append(list, namedQueue{name, q}), true
						}
					}
				}
			}
		}
	}
	return list
}

func validQueues() []namedQueue {
	return queuesFrom(idLists(), floorsToTry())
}

// fewQueues has some of each sort, for tests that try much with each one.
func fewQueues() []namedQueue {
	list := []namedQueue{}
	for k, x := range queuesFrom([][]int{{}, {7}, {0, 99}, {1, 50, 98}, {5, 6, 7, 8, 9}, {0, 19, 38, 57, 76, 99}}, []int{0, 30, 999941, 1000000}) {
		if k%7 == 0 {
			list = append(list, x)
		}
	}
	return list
}

// noTaskIds are numbers that no task has, among them those that one may have if they are cut to fewer bits.
func noTaskIds() []int {
	return append(greatNumbers(), -256, -100, -99, -2, -1, 100, 101, 128, 255, 256, 257, 1<<16, 1<<32, 1<<32+7)
}

// noWeights are no weights of tasks.
func noWeights() []int {
	return append(greatNumbers(), -256, -255, -6, -2, -1, 0, 7, 8, 60, 255, 256, 257, 1<<16+1, 1<<32, 1<<32+1)
}

// noCosts are no costs, and no Floors.
func noCosts() []int {
	return append(greatNumbers(), -1000000, -256, -60, -2, -1, 1000001, 1000002, 1000060, 1<<24, 1<<32, 1<<32+30)
}

// noTicks are no numbers of ticks of a run.
func noTicks() []int {
	return append(greatNumbers(), -1000, -256, -60, -2, -1, 1001, 1002, 1060, 1<<16, 1<<32, 1<<32+1)
}

// basicQueues are valid queues to each of which a fault is added.
func basicQueues() []impl.Queue {
	return []impl.Queue{
		queueOf("0: 7/1:0"), queueOf("30: 7/1:30z"), queueOf("1000000: 7/6:1000000"),
		queueOf("60: 3/2:60 8/1:90"), queueOf("60: 3/2:60z 8/1:0z"),
		queueOf("500: 2/1:500 4/2:520 6/3:0z"),
		queueOf("0: 10/1:0 20/2:0 30/3:0 40/4:0 50/5:0 60/6:0"),
		queueOf("100: 10/6:110 20/5:100 30/4:0z 40/3:160 50/2:100 60/1:99z"),
		queueOf("1000: 10/6:0z 20/5:0z 30/4:999z 40/3:1000z 50/2:1001z 60/1:1000000z"),
	}
}

// invalidQueues has queues each of which is not valid for just one cause.
func invalidQueues() []namedQueue {
	list := []namedQueue{}
	add := func(name string, q impl.Queue) {
		list = append(list, namedQueue{name + ": " + queueText(q), q})
	}
	for _, q := range append(basicQueues(), impl.Queue{}) {
		for _, floor := range noCosts() {
			x := impl.Queue{Tasks: slices.Clone(q.Tasks), Floor: floor}
			for k := range x.Tasks {
				// Below a Floor above ShareTop one that is ready would be a cause, too.
				x.Tasks[k].Ready = floor < 0
			}
			add("no Floor", x)
		}
	}
	for _, q := range basicQueues() {
		for k := range q.Tasks {
			for _, weight := range noWeights() {
				add("no weight", queueWith(q, k, func(task *impl.Task) { task.Weight = weight }))
			}
			for _, cost := range noCosts() {
				add("no cost, asleep", queueWith(q, k, func(task *impl.Task) { task.Cost, task.Ready = cost, false }))
				if cost > 0 {
					add("no cost, ready", queueWith(q, k, func(task *impl.Task) { task.Cost, task.Ready = cost, true }))
				}
			}
			if q.Floor > 0 {
				for _, cost := range []int{0, q.Floor / 2, q.Floor - 1} {
					add("ready below Floor", queueWith(q, k, func(task *impl.Task) { task.Cost, task.Ready = cost, true }))
				}
			}
		}
	}
	return append(append(list, queuesOutOfOrder()...), queuesTooLong()...)
}

// queuesOutOfOrder are not valid as a number is none of a task, or numbers do not ascend.
func queuesOutOfOrder() []namedQueue {
	list := []namedQueue{}
	add := func(name string, q impl.Queue) {
		list = append(list, namedQueue{name + ": " + queueText(q), q})
	}
	for _, q := range basicQueues() {
		last := len(q.Tasks) - 1
		for _, id := range noTaskIds() {
			at := 0
			if id > 0 {
				at = last
			}
			add("no number", queueWith(q, at, func(task *impl.Task) { task.Id = id }))
		}
		for k := range last {
			add("two of a number", queueWith(q, k, func(task *impl.Task) { task.Id = q.Tasks[k+1].Id }))
			x := cloneQueue(q)
			x.Tasks[k].Id, x.Tasks[k+1].Id = x.Tasks[k+1].Id, x.Tasks[k].Id
			add("two numbers not in order", x)
		}
		if last > 0 {
			x := cloneQueue(q)
			slices.Reverse(x.Tasks)
			add("all numbers not in order", x)
			add("the first number at the end", queueWith(q, last, func(task *impl.Task) { task.Id = q.Tasks[0].Id }))
			add("a number below all at the end", queueWith(q, last, func(task *impl.Task) { task.Id = 0 }))
		}
	}
	return list
}

// queuesTooLong are not valid as they have more than TaskMax tasks.
func queuesTooLong() []namedQueue {
	list := []namedQueue{}
	for _, many := range []int{7, 8, 9, 12, 16, 64, 100} {
		for _, ready := range []bool{true, false} {
			q := impl.Queue{Floor: 5}
			for id := range many {
				q.Tasks = append(q.Tasks, impl.Task{Id: id, Weight: 1 + id%6, Cost: 5 + id, Ready: ready})
			}
			list = append(list, namedQueue{"too many tasks: " + queueText(q), q})
		}
	}
	return list
}

func allQueues() []namedQueue {
	return append(validQueues(), invalidQueues()...)
}

// randomQueue is mostly valid, and often with costs that are alike.
func randomQueue(r *rand.Rand) impl.Queue {
	q := impl.Queue{Floor: pick(r, floorsToTry())}
	for _, id := range slices.Sorted(slices.Values(r.Perm(100)[:r.Intn(7)])) {
		task := impl.Task{Id: id, Weight: 1 + r.Intn(6), Cost: min(q.Floor+10*r.Intn(8), 1000000), Ready: r.Intn(3) > 0}
		if !task.Ready && r.Intn(2) == 0 {
			task.Cost = r.Intn(1 + q.Floor)
		}
		q.Tasks = append(q.Tasks, task)
	}
	if len(q.Tasks) > 0 && r.Intn(4) == 0 {
		task := &q.Tasks[r.Intn(len(q.Tasks))]
		switch r.Intn(4) {
		case 0:
			task.Id = pick(r, append(noTaskIds(), 0, 50, 99))
		case 1:
			task.Weight = pick(r, noWeights())
		case 2:
			task.Cost = pick(r, append(noCosts(), 0, 1, 1000000))
		case 3:
			q.Floor = pick(r, append(noCosts(), 0, 40, 1000000))
		}
	}
	return q
}

// idsToTry are the numbers of all tasks of a queue, those beside them, and some that no task has.
func idsToTry(q impl.Queue) []int {
	ids := append(noTaskIds(), 0, 1, 42, 98, 99)
	for _, id := range idsOf(q) {
		ids = append(ids, id-1, id, id+1)
	}
	return ids
}

// freeIds are numbers that a task of a queue may have and none has: ahead of all, between, and behind.
func freeIds(q impl.Queue) []int {
	return slices.DeleteFunc(idsToTry(q), func(id int) bool { return id < 0 || id > 99 || placeOf(q, id) >= 0 })
}

func wantQueue(t *testing.T, what string, got, want impl.Queue) {
	t.Helper()
	if got.Floor != want.Floor || !slices.Equal(got.Tasks, want.Tasks) {
		t.Fatalf("%s: got %s, want %s", what, queueText(got), queueText(want))
	}
}

// wantQueueAnd checks what QueueAdd, QueueLess, QueueSleep or QueueWake returned.
func wantQueueAnd(t *testing.T, what string, got impl.Queue, ok bool, want impl.Queue, need bool) {
	t.Helper()
	if ok != need {
		t.Fatalf("%s: told %v, want %v", what, ok, need)
	}
	wantQueue(t, what, got, want)
}

// wantTicked checks what QueueTick returned.
func wantTicked(t *testing.T, what string, got impl.Queue, id int, ok bool, want impl.Queue, needId int, need bool) {
	t.Helper()
	if id != needId || ok != need {
		t.Fatalf("%s: told %d and %v, want %d and %v", what, id, ok, needId, need)
	}
	wantQueue(t, what, got, want)
}

// wantRan checks what QueueRun returned.
func wantRan(t *testing.T, what string, got impl.Queue, ids []int, ok bool, want impl.Queue, needIds []int, need bool) {
	t.Helper()
	if ok != need || !slices.Equal(ids, needIds) {
		t.Fatalf("%s: told %v and %v, want %v and %v", what, ids, ok, needIds, need)
	}
	wantQueue(t, what, got, want)
}

// mustTick is a queue behind a tick, and who got it.
func mustTick(t *testing.T, q impl.Queue) (impl.Queue, int) {
	t.Helper()
	next, id, ok := impl.QueueTick(q)
	if !ok {
		t.Fatalf("QueueTick of %s failed", queueText(q))
	}
	return next, id
}

// mustRun is a queue behind ticks, and who got them.
func mustRun(t *testing.T, q impl.Queue, n int) (impl.Queue, []int) {
	t.Helper()
	next, ids, ok := impl.QueueRun(q, n)
	if !ok || len(ids) != n {
		t.Fatalf("QueueRun of %d ticks of %s told %d numbers and %v", n, queueText(q), len(ids), ok)
	}
	return next, ids
}

func mustSleep(t *testing.T, q impl.Queue, id int) impl.Queue {
	t.Helper()
	next, ok := impl.QueueSleep(q, id)
	if !ok {
		t.Fatalf("QueueSleep of %d of %s failed", id, queueText(q))
	}
	return next
}

func mustWake(t *testing.T, q impl.Queue, id int) impl.Queue {
	t.Helper()
	next, ok := impl.QueueWake(q, id)
	if !ok {
		t.Fatalf("QueueWake of %d of %s failed", id, queueText(q))
	}
	return next
}

func mustAdd(t *testing.T, q impl.Queue, id, weight int) impl.Queue {
	t.Helper()
	next, ok := impl.QueueAdd(q, id, weight)
	if !ok {
		t.Fatalf("QueueAdd of %d of weight %d to %s failed", id, weight, queueText(q))
	}
	return next
}
