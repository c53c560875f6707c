package tests

import (
	"fmt"
	"slices"
	"testing"

	"loop.example/quarterdeck/impl"
)

// Promise 101.
func TestQueueOkIsARunOfNoTicks(t *testing.T) {
	valid := 0
	for _, x := range allQueues() {
		got, ids, ok := impl.QueueRun(x.queue, 0)
		if ok != impl.QueueOk(x.queue) || len(ids) != 0 {
			t.Fatalf("%s: QueueOk is %v, and QueueRun of no ticks told %v and %v", x.name, impl.QueueOk(x.queue), ids, ok)
		}
		if !ok {
			wantQueue(t, x.name, got, impl.Queue{})
			continue
		}
		valid++
		wantQueue(t, x.name, got, x.queue)
	}
	if valid != len(validQueues()) {
		t.Errorf("%d queues are valid, want %d", valid, len(validQueues()))
	}
}

// Promise 102.
func TestQueueAddAndQueueLessIsAsItWas(t *testing.T) {
	for _, x := range validQueues() {
		for k, id := range freeIds(x.queue) {
			weight := 1 + (k+len(x.queue.Tasks))%6
			what := fmt.Sprintf("%s: QueueAdd of %d of weight %d", x.name, id, weight)
			got, ok := impl.QueueAdd(x.queue, id, weight)
			if len(x.queue.Tasks) == 6 {
				wantQueueAnd(t, what, got, ok, impl.Queue{}, false)
				continue
			}
			if !ok || !impl.QueueOk(got) || !slices.IsSorted(idsOf(got)) || len(got.Tasks) != len(x.queue.Tasks)+1 {
				t.Fatalf("%s told %v and %s", what, ok, queueText(got))
			}
			if added := taskOf(got, id); added != (impl.Task{Id: id, Weight: weight, Cost: x.queue.Floor, Ready: true}) {
				t.Fatalf("%s: it is %v", what, added)
			}
			again, ok := impl.QueueAdd(got, id, weight)
			wantQueueAnd(t, what+" twice", again, ok, impl.Queue{}, false)
			back, ok := impl.QueueLess(got, id)
			wantQueueAnd(t, what+" and QueueLess", back, ok, x.queue, true)
		}
	}
}

// Promise 103.
func TestQueueLessHasOneLess(t *testing.T) {
	for _, x := range validQueues() {
		for k, id := range idsOf(x.queue) {
			what := fmt.Sprintf("%s: QueueLess of %d", x.name, id)
			got, ok := impl.QueueLess(x.queue, id)
			want := impl.Queue{Tasks: slices.Delete(slices.Clone(x.queue.Tasks), k, k+1), Floor: x.queue.Floor}
			wantQueueAnd(t, what, got, ok, want, true)
			_, next, _ := impl.QueueTick(got)
			if !impl.QueueOk(got) || impl.QueueNext(got) == id || next == id {
				t.Fatalf("%s: QueueNext is %d, and QueueTick told %d", what, impl.QueueNext(got), next)
			}
			again, ok := impl.QueueLess(got, id)
			wantQueueAnd(t, what+" twice", again, ok, impl.Queue{}, false)
		}
	}
}

// Promise 104: and of those that cost as little it is the first one.
func TestQueueNextIsReadyAndCheapest(t *testing.T) {
	for _, x := range validQueues() {
		next := impl.QueueNext(x.queue)
		for _, task := range x.queue.Tasks {
			if !task.Ready {
				if next == task.Id {
					t.Fatalf("%s: QueueNext is %d, which is not ready", x.name, next)
				}
				continue
			}
			if next < 0 || task.Cost < taskOf(x.queue, next).Cost || task.Cost == taskOf(x.queue, next).Cost && task.Id < next {
				t.Fatalf("%s: QueueNext is %d", x.name, next)
			}
		}
	}
}

// Promise 105: Floor, too, does not go down, and does not pass one that is ready.
func TestQueueTickGivesToQueueNext(t *testing.T) {
	for _, x := range validQueues() {
		next, what := impl.QueueNext(x.queue), x.name+": QueueTick"
		got, id, ok := impl.QueueTick(x.queue)
		if next < 0 || taskOf(x.queue, next).Cost+tickOf(taskOf(x.queue, next).Weight) > 1000000 {
			wantTicked(t, what, got, id, ok, impl.Queue{}, -1, false)
			continue
		}
		if !ok || id != next || !impl.QueueOk(got) {
			t.Fatalf("%s told %d, %v and %s", what, id, ok, queueText(got))
		}
		want := queueWith(x.queue, placeOf(x.queue, id), func(task *impl.Task) { task.Cost += tickOf(task.Weight) })
		least := 1000000
		for _, task := range want.Tasks {
			if task.Ready {
				least = min(least, task.Cost)
			}
		}
		want.Floor = max(x.queue.Floor, least)
		wantQueue(t, what, got, want)
	}
}

// Promise 106.
func TestQueueSleepIsNotNext(t *testing.T) {
	for _, x := range validQueues() {
		for k, id := range idsOf(x.queue) {
			what := fmt.Sprintf("%s: QueueSleep of %d", x.name, id)
			got, ok := impl.QueueSleep(x.queue, id)
			wantQueueAnd(t, what, got, ok, queueWith(x.queue, k, func(task *impl.Task) { task.Ready = false }), true)
			if !impl.QueueOk(got) || impl.QueueNext(got) == id {
				t.Fatalf("%s: QueueNext is %d", what, impl.QueueNext(got))
			}
			again, ok := impl.QueueSleep(got, id)
			wantQueueAnd(t, what+" twice", again, ok, got, true)
		}
	}
}

// Promise 108.
func TestARunIsThatOfItsParts(t *testing.T) {
	for _, x := range fewQueues() {
		for _, n := range []int{0, 1, 2, 5, 21, 60} {
			whole, ids, ok := impl.QueueRun(x.queue, n)
			for first := range n + 1 {
				what := fmt.Sprintf("%s: QueueRun of %d and then %d ticks", x.name, first, n-first)
				one, ahead, may := impl.QueueRun(x.queue, first)
				two, behind, can := impl.QueueRun(one, n-first)
				if !may {
					can = false
				}
				if !can {
					two, ahead, behind = impl.Queue{}, nil, nil
				}
				wantRan(t, what, two, slices.Concat(ahead, behind), can, whole, ids, ok)
			}
		}
	}
}

// A run of ticks is one QueueTick after the other.
func TestARunIsItsTicks(t *testing.T) {
	for _, x := range validQueues() {
		for _, n := range []int{1, 3, 13} {
			q, need, all := x.queue, []int{}, true
			for range n {
				next, id, ok := impl.QueueTick(q)
				if all = ok; !ok {
					q, need = impl.Queue{}, nil
					break
				}
				q, need = next, append(need, id)
			}
			got, ids, ok := impl.QueueRun(x.queue, n)
			wantRan(t, fmt.Sprintf("%s: QueueRun of %d ticks", x.name, n), got, ids, ok, q, need, all)
		}
	}
}

// evenQueues have tasks that are all ready and cost Floor: all weights of up to three, and some of more.
func evenQueues() []impl.Queue {
	list := []impl.Queue{}
	add := func(floor int, weights ...int) {
		q := impl.Queue{Floor: floor}
		for k, weight := range weights {
			q.Tasks = append(q.Tasks, impl.Task{Id: 11 * k, Weight: weight, Cost: floor, Ready: true})
		}
		list = append(list, q)
	}
	for a := 1; a <= 6; a++ {
		add(a, a)
		for b := 1; b <= 6; b++ {
			add(0, a, b)
			for c := 1; c <= 6; c++ {
				add(30, a, b, c)
				add(1000, c, a, b, 6)
				add(0, 7-a, b, c, 7-b, a)
				add(7, a, b, c, 7-c, a, 7-b)
			}
		}
	}
	return list
}

// Promise 109: by one tick, one that costs more than another one by all that a tick costs.
func TestEvenTasksStayNearEachOther(t *testing.T) {
	most := 0
	for _, q := range evenQueues() {
		for n := range 130 {
			for _, a := range q.Tasks {
				for _, b := range q.Tasks {
					if a.Cost-b.Cost > tickOf(a.Weight) {
						t.Fatalf("behind %d ticks there is %s: %d is too far above %d", n, queueText(q), a.Id, b.Id)
					}
					if a.Cost-b.Cost == 60 {
						most++
					}
				}
			}
			q, _ = mustTick(t, q)
		}
	}
	if most < 1000 {
		t.Errorf("a task of weight 1 was just %d times above another one by a tick", most)
	}
}

// What tasks get in a run is as their weights are: by the time that all cost as much again, each one has got as many ticks as its weight each round.
func TestTasksGetTicksByTheirWeights(t *testing.T) {
	for _, q := range evenQueues() {
		round := 0
		for _, task := range q.Tasks {
			round += task.Weight
		}
		for _, rounds := range []int{1, 2, 7} {
			got, ids := mustRun(t, q, rounds*round)
			want := impl.Queue{Tasks: slices.Clone(q.Tasks), Floor: q.Floor + 60*rounds}
			many := map[int]int{}
			for _, id := range ids {
				many[id]++
			}
			for k, task := range want.Tasks {
				want.Tasks[k].Cost = want.Floor
				if many[task.Id] != rounds*task.Weight {
					t.Fatalf("%s: in %d rounds %d got %d ticks", queueText(q), rounds, task.Id, many[task.Id])
				}
			}
			wantQueue(t, fmt.Sprintf("%d rounds of %s", rounds, queueText(q)), got, want)
		}
	}
}

// Promise 110.
func TestEachReadyTaskGetsATickInSixty(t *testing.T) {
	checked, late := 0, 0
	for _, x := range validQueues() {
		for _, n := range []int{60, 61, 100} {
			_, ids, ok := impl.QueueRun(x.queue, n)
			for _, task := range x.queue.Tasks {
				if !ok || !task.Ready || task.Cost > x.queue.Floor+60 {
					continue
				}
				first := slices.Index(ids, task.Id)
				if first < 0 || first >= 60 {
					t.Fatalf("%s: in a run of %d ticks %d got the one at %d", x.name, n, task.Id, first)
				}
				checked, late = checked+1, max(late, first)
			}
		}
	}
	if checked < 10000 || late < 20 {
		t.Errorf("%d tasks were looked at, the last one of which got a tick behind %d others", checked, late)
	}
}

// Promise 110: who waits longest is behind five others of the greatest weight.
func TestTheDearestTaskWaitsForFiveOthers(t *testing.T) {
	for weight := 1; weight <= 6; weight++ {
		text := fmt.Sprintf("0: 1/6:0 2/6:0 3/6:0 4/6:0 5/6:0 6/%d:60", weight)
		_, ids := mustRun(t, queueOf(text), 60)
		if first := slices.Index(ids, 6); first != 35 {
			t.Errorf("%s: 6 got a tick behind %d others", text, first)
		}
		text = fmt.Sprintf("0: 1/%d:60 2/6:0 3/6:0 4/6:0 5/6:0 6/6:0", weight)
		_, ids = mustRun(t, queueOf(text), 60)
		if first := slices.Index(ids, 1); first != 30 {
			t.Errorf("%s: 1 got a tick behind %d others", text, first)
		}
	}
}

// Promise 112.
func TestNoReadyTaskBecomesMuchDearerThanAnotherOne(t *testing.T) {
	apart := 0
	for _, x := range validQueues() {
		q := x.queue
		for range 25 {
			next, _, ok := impl.QueueTick(q)
			if !ok {
				break
			}
			q = next
			for j, a := range q.Tasks {
				for k, b := range q.Tasks {
					was := x.queue.Tasks[j].Cost - x.queue.Tasks[k].Cost
					if a.Ready && b.Ready && a.Cost-b.Cost > max(was, tickOf(a.Weight)) {
						t.Fatalf("%s: then there is %s, and %d is too far above %d", x.name, queueText(q), a.Id, b.Id)
					}
					if a.Ready && b.Ready && a.Cost-b.Cost == tickOf(a.Weight) && was < a.Cost-b.Cost {
						apart++
					}
				}
			}
		}
	}
	if apart < 1000 {
		t.Errorf("a task became dearer by a tick just %d times", apart)
	}
}

func TestQueueCallsOfInvalidQueues(t *testing.T) {
	for _, x := range invalidQueues() {
		if impl.QueueOk(x.queue) || impl.QueueNext(x.queue) != -1 {
			t.Fatalf("%s: QueueOk is %v, QueueNext %d", x.name, impl.QueueOk(x.queue), impl.QueueNext(x.queue))
		}
		got, id, ok := impl.QueueTick(x.queue)
		wantTicked(t, x.name+": QueueTick", got, id, ok, impl.Queue{}, -1, false)
		for _, id := range append(idsOf(x.queue), 0, 42, 99) {
			got, ok := impl.QueueAdd(x.queue, id, 1)
			wantQueueAnd(t, x.name+": QueueAdd", got, ok, impl.Queue{}, false)
			got, ok = impl.QueueLess(x.queue, id)
			wantQueueAnd(t, x.name+": QueueLess", got, ok, impl.Queue{}, false)
			got, ok = impl.QueueSleep(x.queue, id)
			wantQueueAnd(t, x.name+": QueueSleep", got, ok, impl.Queue{}, false)
			got, ok = impl.QueueWake(x.queue, id)
			wantQueueAnd(t, x.name+": QueueWake", got, ok, impl.Queue{}, false)
		}
		for _, n := range []int{-1, 0, 1, 60, 1000, 1001} {
			got, ids, ok := impl.QueueRun(x.queue, n)
			wantRan(t, x.name+": QueueRun", got, ids, ok, impl.Queue{}, nil, false)
		}
	}
}

// Arguments that are not valid, of queues that are.
func TestQueueCallsOfInvalidArguments(t *testing.T) {
	for _, x := range fewQueues() {
		none := []int{42, 43}
		for _, id := range append(none, noTaskIds()...) {
			got, ok := impl.QueueLess(x.queue, id)
			wantQueueAnd(t, fmt.Sprintf("%s: QueueLess of %d", x.name, id), got, ok, impl.Queue{}, false)
			got, ok = impl.QueueSleep(x.queue, id)
			wantQueueAnd(t, fmt.Sprintf("%s: QueueSleep of %d", x.name, id), got, ok, impl.Queue{}, false)
			got, ok = impl.QueueWake(x.queue, id)
			wantQueueAnd(t, fmt.Sprintf("%s: QueueWake of %d", x.name, id), got, ok, impl.Queue{}, false)
		}
		for _, id := range noTaskIds() {
			got, ok := impl.QueueAdd(x.queue, id, 1)
			wantQueueAnd(t, fmt.Sprintf("%s: QueueAdd of %d", x.name, id), got, ok, impl.Queue{}, false)
		}
		for _, weight := range noWeights() {
			got, ok := impl.QueueAdd(x.queue, 42, weight)
			wantQueueAnd(t, fmt.Sprintf("%s: QueueAdd of weight %d", x.name, weight), got, ok, impl.Queue{}, false)
		}
		for _, n := range noTicks() {
			got, ids, ok := impl.QueueRun(x.queue, n)
			wantRan(t, fmt.Sprintf("%s: QueueRun of %d", x.name, n), got, ids, ok, impl.Queue{}, nil, false)
		}
	}
}
