package tests

import (
	"fmt"
	"maps"
	"math/rand"
	"slices"
	"testing"

	"loop.example/quarterdeck/impl"
)

// modelQueue is a queue by the numbers of its tasks.
type modelQueue struct {
	tasks map[int]impl.Task
	floor int
}

// queueIsValid tells, without the program, whether a queue is valid.
func queueIsValid(q impl.Queue) bool {
	if len(q.Tasks) > 6 || q.Floor < 0 || q.Floor > 1000000 {
		return false
	}
	below := -1
	for _, task := range q.Tasks {
		if task.Id <= below || task.Id > 99 || task.Weight < 1 || task.Weight > 6 {
			return false
		}
		if task.Cost < 0 || task.Cost > 1000000 || task.Ready && task.Cost < q.Floor {
			return false
		}
		below = task.Id
	}
	return true
}

// queueModelOf has a valid queue, and true; it fails if the queue is not valid.
func queueModelOf(q impl.Queue) (modelQueue, bool) {
	m := modelQueue{map[int]impl.Task{}, q.Floor}
	if !queueIsValid(q) {
		return m, false
	}
	for _, task := range q.Tasks {
		m.tasks[task.Id] = task
	}
	return m, true
}

// queue is queueModelOf back.
func (m modelQueue) queue() impl.Queue {
	q := impl.Queue{Floor: m.floor}
	for _, id := range slices.Sorted(maps.Keys(m.tasks)) {
		q.Tasks = append(q.Tasks, m.tasks[id])
	}
	return q
}

// next goes through all numbers that a task may have, and keeps the first one of those that cost least.
func (m modelQueue) next() int {
	best := -1
	for id := range 100 {
		task, has := m.tasks[id]
		if has && task.Ready && (best < 0 || task.Cost < m.tasks[best].Cost) {
			best = id
		}
	}
	return best
}

// tick gives the next task a tick, if it can be.
func (m *modelQueue) tick() int {
	id := m.next()
	if id < 0 || m.tasks[id].Cost+tickOf(m.tasks[id].Weight) > 1000000 {
		return -1
	}
	task := m.tasks[id]
	task.Cost += tickOf(task.Weight)
	m.tasks[id] = task
	if least := m.tasks[m.next()].Cost; least > m.floor {
		m.floor = least
	}
	return id
}

func modelAdd(q impl.Queue, id, weight int) (impl.Queue, bool) {
	m, ok := queueModelOf(q)
	_, has := m.tasks[id]
	if !ok || has || len(m.tasks) == 6 || id < 0 || id > 99 || weight < 1 || weight > 6 {
		return impl.Queue{}, false
	}
	m.tasks[id] = impl.Task{Id: id, Weight: weight, Cost: m.floor, Ready: true}
	return m.queue(), true
}

func modelLess(q impl.Queue, id int) (impl.Queue, bool) {
	m, ok := queueModelOf(q)
	if _, has := m.tasks[id]; !ok || !has {
		return impl.Queue{}, false
	}
	delete(m.tasks, id)
	return m.queue(), true
}

// modelReadiness is QueueWake, or, for false, QueueSleep.
func modelReadiness(q impl.Queue, id int, ready bool) (impl.Queue, bool) {
	m, ok := queueModelOf(q)
	task, has := m.tasks[id]
	if !ok || !has {
		return impl.Queue{}, false
	}
	if ready && !task.Ready && task.Cost < m.floor {
		task.Cost = m.floor
	}
	task.Ready = ready
	m.tasks[id] = task
	return m.queue(), true
}

func modelTicks(q impl.Queue, n int) (impl.Queue, []int, bool) {
	m, ok := queueModelOf(q)
	if !ok || n < 0 || n > 1000 {
		return impl.Queue{}, nil, false
	}
	ids := []int{}
	for len(ids) < n {
		id := m.tick()
		if id < 0 {
			return impl.Queue{}, nil, false
		}
		ids = append(ids, id)
	}
	return m.queue(), ids, true
}

// wantQueueLikeModel checks all that is asked of a queue alone, and told of its next tick.
func wantQueueLikeModel(t *testing.T, q impl.Queue) {
	t.Helper()
	what := queueText(q)
	if impl.QueueOk(q) != queueIsValid(q) {
		t.Fatalf("%s: QueueOk is %v", what, impl.QueueOk(q))
	}
	next := -1
	if m, ok := queueModelOf(q); ok {
		next = m.next()
	}
	if got := impl.QueueNext(q); got != next {
		t.Fatalf("%s: QueueNext is %d, want %d", what, got, next)
	}
	want, ids, need := modelTicks(q, 1)
	got, id, ok := impl.QueueTick(q)
	wantTicked(t, what+": QueueTick", got, id, ok, want, append(ids, -1)[0], need)
}

// wantTaskLikeModel checks all that is asked of a number alone.
func wantTaskLikeModel(t *testing.T, q impl.Queue, id int) {
	t.Helper()
	what := fmt.Sprintf("%s: %d", queueText(q), id)
	want, need := modelLess(q, id)
	got, ok := impl.QueueLess(q, id)
	wantQueueAnd(t, what+" by QueueLess", got, ok, want, need)
	want, need = modelReadiness(q, id, false)
	got, ok = impl.QueueSleep(q, id)
	wantQueueAnd(t, what+" by QueueSleep", got, ok, want, need)
	want, need = modelReadiness(q, id, true)
	got, ok = impl.QueueWake(q, id)
	wantQueueAnd(t, what+" by QueueWake", got, ok, want, need)
}

func wantAddLikeModel(t *testing.T, q impl.Queue, id, weight int) {
	t.Helper()
	want, need := modelAdd(q, id, weight)
	got, ok := impl.QueueAdd(q, id, weight)
	wantQueueAnd(t, fmt.Sprintf("%s: QueueAdd of %d of weight %d", queueText(q), id, weight), got, ok, want, need)
}

func wantRunLikeModel(t *testing.T, q impl.Queue, n int) bool {
	t.Helper()
	want, need, ok := modelTicks(q, n)
	got, ids, told := impl.QueueRun(q, n)
	wantRan(t, fmt.Sprintf("%s: QueueRun of %d ticks", queueText(q), n), got, ids, told, want, need, ok)
	return told
}

func TestQueuesAreLikeTheModel(t *testing.T) {
	for _, x := range allQueues() {
		wantQueueLikeModel(t, x.queue)
		for _, id := range append(idsOf(x.queue), -1, 0, 42, 99, 100) {
			wantTaskLikeModel(t, x.queue, id)
			wantAddLikeModel(t, x.queue, id, 2)
		}
	}
	for _, x := range fewQueues() {
		for _, id := range idsToTry(x.queue) {
			wantTaskLikeModel(t, x.queue, id)
			for weight := -1; weight <= 8; weight++ {
				wantAddLikeModel(t, x.queue, id, weight)
			}
		}
		for _, weight := range noWeights() {
			wantAddLikeModel(t, x.queue, 42, weight)
		}
	}
}

// Runs of all sorts of lengths: none, some, the most, and one more.
func TestRunsAreLikeTheModel(t *testing.T) {
	met := map[bool]int{}
	for _, x := range allQueues() {
		for _, n := range []int{-1, 0, 1, 2, 7, 60} {
			met[wantRunLikeModel(t, x.queue, n)]++
		}
	}
	for _, x := range fewQueues() {
		for _, n := range append(noTicks(), 3, 21, 59, 61, 100, 999, 1000) {
			met[wantRunLikeModel(t, x.queue, n)]++
		}
	}
	if met[true] < 1000 || met[false] < 1000 {
		t.Errorf("%d runs were done and %d failed", met[true], met[false])
	}
}

func TestRandomQueuesAreLikeTheModel(t *testing.T) {
	r, valid := rand.New(rand.NewSource(11)), map[bool]int{}
	for range 50000 {
		q := randomQueue(r)
		valid[queueIsValid(q)]++
		wantQueueLikeModel(t, q)
		ids := append(idsOf(q), r.Intn(100), pick(r, noTaskIds()))
		wantTaskLikeModel(t, q, pick(r, ids))
		wantAddLikeModel(t, q, pick(r, ids), pick(r, append(noWeights(), 1, 2, 3, 4, 5, 6, 1, 2, 3, 4, 5, 6)))
		wantRunLikeModel(t, q, r.Intn(20))
	}
	if valid[true] < 10000 || valid[false] < 5000 {
		t.Errorf("%d queues were valid and %d not", valid[true], valid[false])
	}
}

// queueStep does one thing with a queue, and tells what the model tells of it; what fails leaves the queue.
func queueStep(r *rand.Rand, q impl.Queue) (got, want impl.Queue, told, need string) {
	id, ok, may := pick(r, append(idsOf(q), r.Intn(100))), true, true
	kind := pick(r, []string{"add", "add", "add", "less", "sleep", "sleep", "wake", "wake", "tick", "tick", "tick", "run"})
	switch kind {
	case "add":
		id, weight := pick(r, []int{id, r.Intn(100)}), pick(r, []int{0, 1, 2, 3, 4, 5, 6, 1, 2, 6, 7})
		got, ok = impl.QueueAdd(q, id, weight)
		want, may = modelAdd(q, id, weight)
	case "less":
		got, ok = impl.QueueLess(q, id)
		want, may = modelLess(q, id)
	case "sleep":
		got, ok = impl.QueueSleep(q, id)
		want, may = modelReadiness(q, id, false)
	case "wake":
		got, ok = impl.QueueWake(q, id)
		want, may = modelReadiness(q, id, true)
	case "tick":
		got, id, ok = impl.QueueTick(q)
		queue, ids, ticks := modelTicks(q, 1)
		return got, queue, fmt.Sprint(kind, " ", ok, " ", id), fmt.Sprint(kind, " ", ticks, " ", append(ids, -1)[0])
	case "run":
		n := pick(r, []int{0, 1, 5, 30, 1001})
		queue, ids, runs := modelTicks(q, n)
		got, list, told := impl.QueueRun(q, n)
		return got, queue, fmt.Sprint(kind, " ", told, " ", list), fmt.Sprint(kind, " ", runs, " ", append([]int{}, ids...))
	}
	return got, want, fmt.Sprint(kind, " ", ok), fmt.Sprint(kind, " ", may)
}

// Behind any calls from a queue without tasks, step by step.
func TestQueuesAlongWalksAreLikeTheModel(t *testing.T) {
	met, long := map[string]int{}, 0
	for seed := range 150 {
		r := rand.New(rand.NewSource(int64(seed)))
		q := impl.Queue{Floor: pick(r, []int{0, 0, 17, 999000})}
		for range 300 {
			got, want, told, need := queueStep(r, q)
			if told != need {
				t.Fatalf("seed %d: of %s it told %s, want %s", seed, queueText(q), told, need)
			}
			wantQueue(t, fmt.Sprintf("seed %d: %s of %s", seed, told, queueText(q)), got, want)
			var kind, ok string
			fmt.Sscan(told, &kind, &ok)
			met[kind+" "+ok]++
			if ok == "true" {
				q = got
			}
			if !impl.QueueOk(q) {
				t.Fatalf("seed %d: %s is not valid", seed, queueText(q))
			}
			if len(q.Tasks) == 6 {
				long++
			}
		}
	}
	for _, kind := range []string{"add", "less", "sleep", "wake", "tick", "run"} {
		if met[kind+" true"] < 100 || met[kind+" false"] < 100 {
			t.Errorf("%s was done %d times and failed %d times", kind, met[kind+" true"], met[kind+" false"])
		}
	}
	if long < 1000 {
		t.Errorf("there were TaskMax tasks just %d times", long)
	}
}
