package tests

import (
	"fmt"
	"slices"
	"testing"

	"loop.example/quarterdeck/impl"
)

// queueAnswer is what a call of chapter 11 returns, as far as it returns it.
type queueAnswer struct {
	queue impl.Queue
	id    int
	ids   []int
	ok    bool
}

// queueCall is a call of a function of chapter 11, told by a text.
type queueCall struct {
	name string
	do   func(q impl.Queue) queueAnswer
}

// queueCalls calls each function with some numbers of tasks, weights and numbers of ticks.
func queueCalls(ids, weights, ticks []int) []queueCall {
	list := []queueCall{
		{"QueueOk", func(q impl.Queue) queueAnswer { return queueAnswer{ok: impl.QueueOk(q)} }},
		{"QueueNext", func(q impl.Queue) queueAnswer { return queueAnswer{id: impl.QueueNext(q)} }},
		{"QueueTick", func(q impl.Queue) queueAnswer {
			got, id, ok := impl.QueueTick(q)
			return queueAnswer{queue: got, id: id, ok: ok}
		}},
	}
	add := func(name string, do func(q impl.Queue) (impl.Queue, bool)) {
		list = append(list, queueCall{name, func(q impl.Queue) queueAnswer {
			got, ok := do(q)
			return queueAnswer{queue: got, ok: ok}
		}})
	}
	for _, id := range ids {
		add(fmt.Sprintf("QueueLess of %d", id), func(q impl.Queue) (impl.Queue, bool) { return impl.QueueLess(q, id) })
		add(fmt.Sprintf("QueueSleep of %d", id), func(q impl.Queue) (impl.Queue, bool) { return impl.QueueSleep(q, id) })
		add(fmt.Sprintf("QueueWake of %d", id), func(q impl.Queue) (impl.Queue, bool) { return impl.QueueWake(q, id) })
		for _, weight := range weights {
			add(fmt.Sprintf("QueueAdd of %d of weight %d", id, weight), func(q impl.Queue) (impl.Queue, bool) { return impl.QueueAdd(q, id, weight) })
		}
	}
	for _, n := range ticks {
		list = append(list, queueCall{fmt.Sprintf("QueueRun of %d", n), func(q impl.Queue) queueAnswer {
			got, ids, ok := impl.QueueRun(q, n)
			return queueAnswer{queue: got, ids: ids, ok: ok}
		}})
	}
	return list
}

// fewQueueCalls are some of each sort, for numbers that some queues have and others have not.
func fewQueueCalls() []queueCall {
	return queueCalls([]int{-1, 0, 1, 7, 30, 50, 60, 99, 100}, []int{0, 1, 6, 7}, []int{-1, 0, 1, 8, 100, 1001})
}

// queuesForMemory are queues with which memory is looked at: some that are valid, some that are not.
func queuesForMemory() []namedQueue {
	list := fewQueues()
	for _, q := range basicQueues() {
		list = append(list, namedQueue{queueText(q), q})
	}
	for k, x := range invalidQueues() {
		if k%17 == 0 {
			list = append(list, x)
		}
	}
	return list
}

// roomyQueue is the same queue with marks in the capacity behind its tasks, which a call must leave alone, too.
func roomyQueue(q impl.Queue) impl.Queue {
	mark := impl.Task{Id: 71, Weight: 72, Cost: 73, Ready: true}
	tasks := append(slices.Clone(q.Tasks), mark, mark, mark)
	return impl.Queue{Tasks: tasks[:len(q.Tasks)], Floor: q.Floor}
}

// wholeQueue has all that the list of tasks has up to its capacity.
func wholeQueue(q impl.Queue) impl.Queue {
	return impl.Queue{Tasks: q.Tasks[:cap(q.Tasks)], Floor: q.Floor}
}

// scribbleQueue overwrites all tasks that a queue has, up to the capacity of the list.
func scribbleQueue(q impl.Queue) {
	for k := range wholeQueue(q).Tasks {
		wholeQueue(q).Tasks[k] = impl.Task{Id: -7, Weight: -7, Cost: -7}
	}
}

// scribbleIds overwrites numbers, up to the capacity of their list.
func scribbleIds(ids []int) {
	ids = ids[:cap(ids)]
	for k := range ids {
		ids[k] = -7
	}
}

func cloneAnswer(a queueAnswer) queueAnswer {
	return queueAnswer{cloneQueue(a.queue), a.id, slices.Clone(a.ids), a.ok}
}

func wantQueueAnswer(t *testing.T, what string, got, want queueAnswer) {
	t.Helper()
	if got.id != want.id {
		t.Fatalf("%s: told %d, want %d", what, got.id, want.id)
	}
	wantRan(t, what, got.queue, got.ids, got.ok, want.queue, want.ids, want.ok)
}

func TestQueueCallsDoNotPanic(t *testing.T) {
	try := func(name string, do func()) {
		defer func() {
			if r := recover(); r != nil {
				t.Errorf("%s panicked: %v", name, r)
			}
		}()
		do()
	}
	few := fewQueueCalls()
	for _, x := range append(allQueues(), namedQueue{"many tasks", impl.Queue{Tasks: make([]impl.Task, 100000)}}) {
		for _, c := range few {
			try(c.name+" of "+x.name, func() { c.do(x.queue) })
		}
	}
	calls := queueCalls(append(noTaskIds(), 0, 7, 99), append(noWeights(), 1, 6), append(noTicks(), 0, 1, 1000))
	for _, x := range queuesForMemory() {
		for _, c := range calls {
			try(c.name+" of "+x.name, func() { c.do(x.queue) })
		}
	}
	// Great numbers everywhere at once, which must not become others by being added to each other.
	for _, id := range greatNumbers() {
		for _, weight := range append(greatNumbers(), 0, 1) {
			for _, cost := range greatNumbers() {
				for _, floor := range append(greatNumbers(), 0) {
					q := impl.Queue{Tasks: []impl.Task{{Id: id, Weight: weight, Cost: cost, Ready: true}}, Floor: floor}
					for _, c := range few {
						try(c.name+" of "+queueText(q), func() { c.do(q) })
					}
				}
			}
		}
	}
}

func TestQueueArgumentsAreNotChanged(t *testing.T) {
	calls := fewQueueCalls()
	for _, x := range queuesForMemory() {
		q := roomyQueue(x.queue)
		was := cloneQueue(wholeQueue(q))
		for _, c := range calls {
			c.do(q)
			wantQueue(t, c.name+" of "+x.name+" changed its argument", wholeQueue(q), was)
		}
	}
}

func TestQueueResultsShareNothingWithArguments(t *testing.T) {
	calls := fewQueueCalls()
	for _, x := range queuesForMemory() {
		for _, c := range calls {
			q := roomyQueue(x.queue)
			was := cloneQueue(wholeQueue(q))
			got := c.do(q)
			if !listsApart(got.queue.Tasks, q.Tasks) {
				t.Fatalf("%s of %s: tasks of the result and of the argument share memory", c.name, x.name)
			}
			scribbleQueue(got.queue)
			scribbleIds(got.ids)
			wantQueue(t, c.name+" of "+x.name+": the argument is in the result", wholeQueue(q), was)
			got = c.do(q)
			told := cloneAnswer(got)
			scribbleQueue(q)
			wantQueueAnswer(t, c.name+" of "+x.name+": the result is in the argument", got, told)
		}
	}
}

// What is told is the same each time, and no result is in another one.
func TestQueueResultsShareNothingWithEachOther(t *testing.T) {
	calls := fewQueueCalls()
	for _, x := range queuesForMemory() {
		for _, c := range calls {
			one, two := c.do(x.queue), c.do(x.queue)
			told := cloneAnswer(two)
			wantQueueAnswer(t, c.name+" of "+x.name+" again", one, two)
			if !listsApart(one.queue.Tasks, two.queue.Tasks) || !listsApart(one.ids, two.ids) {
				t.Fatalf("%s of %s: results share memory", c.name, x.name)
			}
			scribbleQueue(one.queue)
			scribbleIds(one.ids)
			wantQueueAnswer(t, c.name+" of "+x.name+": a result is in another one", two, told)
		}
	}
}

// From one queue two ways are gone on, and neither one sees what goes on the other one.
func TestQueuesGoOnApart(t *testing.T) {
	for _, x := range fewQueues() {
		ran, ids, ok := impl.QueueRun(x.queue, 3)
		if !ok {
			continue
		}
		told := cloneAnswer(queueAnswer{queue: ran, ids: ids, ok: true})
		for _, c := range fewQueueCalls() {
			scribbleQueue(c.do(ran).queue)
			wantQueueAnswer(t, x.name+": QueueRun, and then "+c.name, queueAnswer{queue: ran, ids: ids, ok: true}, told)
		}
	}
}

// No tasks and an empty list of them are the same.
func TestQueuesOfNoTasks(t *testing.T) {
	none, empty := impl.Queue{Floor: 30}, impl.Queue{Tasks: []impl.Task{}, Floor: 30}
	room := impl.Queue{Tasks: make([]impl.Task, 0, 8), Floor: 30}
	for _, c := range fewQueueCalls() {
		want := c.do(none)
		wantQueueAnswer(t, c.name+" of an empty list", c.do(empty), want)
		wantQueueAnswer(t, c.name+" of an empty list with room", c.do(room), want)
		if got := c.do(room); !listsApart(got.queue.Tasks, room.Tasks) {
			t.Fatalf("%s of an empty list with room keeps it", c.name)
		}
		wantQueue(t, c.name+" of no tasks changed them", none, impl.Queue{Floor: 30})
		if slices.ContainsFunc(room.Tasks[:8], func(task impl.Task) bool { return task != impl.Task{} }) {
			t.Fatalf("%s of an empty list with room wrote to it", c.name)
		}
	}
}
