package tests

import (
	"fmt"
	"slices"
	"testing"

	"loop.example/quarterdeck/impl"
)

// Promise 107: of each task of each queue; one that is ready stays as it is, one that slept costs Floor, if that is more.
func TestQueueWakeIsReadyAtFloor(t *testing.T) {
	met := map[string]int{}
	for _, x := range validQueues() {
		for k, was := range x.queue.Tasks {
			what := fmt.Sprintf("%s: QueueWake of %d", x.name, was.Id)
			want := cloneQueue(x.queue)
			switch {
			case was.Ready:
				met["ready"]++
			case was.Cost < x.queue.Floor:
				met["below Floor"]++
				want.Tasks[k] = impl.Task{Id: was.Id, Weight: was.Weight, Cost: x.queue.Floor, Ready: true}
			case was.Cost == x.queue.Floor:
				met["at Floor"]++
				want.Tasks[k].Ready = true
			default:
				met["above Floor"]++
				want.Tasks[k].Ready = true
			}
			got, ok := impl.QueueWake(x.queue, was.Id)
			wantQueueAnd(t, what, got, ok, want, true)
			if !impl.QueueOk(got) || taskOf(got, was.Id).Cost < got.Floor {
				t.Fatalf("%s: it is not valid", what)
			}
			again, ok := impl.QueueWake(got, was.Id)
			wantQueueAnd(t, what+" twice", again, ok, got, true)
		}
	}
	for _, sort := range []string{"ready", "below Floor", "at Floor", "above Floor"} {
		if met[sort] < 1000 {
			t.Errorf("just %d tasks that were %s woke", met[sort], sort)
		}
	}
}

// Who sleeps and wakes before anybody gets a tick is as before.
func TestQueueSleepAndQueueWakeAtOnceIsAsItWas(t *testing.T) {
	for _, x := range validQueues() {
		q := x.queue
		for _, task := range x.queue.Tasks {
			if !task.Ready {
				continue
			}
			got := mustWake(t, mustSleep(t, x.queue, task.Id), task.Id)
			wantQueue(t, fmt.Sprintf("%s: %d slept and woke", x.name, task.Id), got, x.queue)
			q = mustSleep(t, q, task.Id)
		}
		for _, task := range x.queue.Tasks {
			if task.Ready {
				q = mustWake(t, q, task.Id)
			}
		}
		wantQueue(t, x.name+": all slept and woke", q, x.queue)
	}
}

// Tasks that wake in either order wake to the same.
func TestTasksWakeInEitherOrder(t *testing.T) {
	for _, x := range validQueues() {
		ids := idsOf(x.queue)
		up, down := x.queue, x.queue
		for k := range ids {
			up, down = mustWake(t, up, ids[k]), mustWake(t, down, ids[len(ids)-1-k])
		}
		wantQueue(t, x.name+": all woke", up, down)
		for _, task := range up.Tasks {
			if want := max(taskOf(x.queue, task.Id).Cost, x.queue.Floor); !task.Ready || task.Cost != want {
				t.Fatalf("%s: all woke, and %d costs %d", x.name, task.Id, task.Cost)
			}
		}
	}
}

// Promise 111: of each task that is put to sleep, behind runs of all sorts of lengths; it gets no tick, and costs what it did or Floor.
func TestATaskThatSleptThroughARunCostsFloor(t *testing.T) {
	raised := 0
	for _, x := range validQueues() {
		for _, was := range x.queue.Tasks {
			slept := mustSleep(t, x.queue, was.Id)
			for _, n := range []int{0, 1, 5, 40} {
				ran, ids, ok := impl.QueueRun(slept, n)
				if !ok {
					continue
				}
				what := fmt.Sprintf("%s: %d slept through %d ticks", x.name, was.Id, n)
				if slices.Contains(ids, was.Id) || taskOf(ran, was.Id).Cost != was.Cost {
					t.Fatalf("%s: they went to %v, then there is %s", what, ids, queueText(ran))
				}
				got := mustWake(t, ran, was.Id)
				want := queueWith(ran, placeOf(ran, was.Id), func(task *impl.Task) { task.Cost, task.Ready = max(was.Cost, ran.Floor), true })
				wantQueue(t, what+" and woke", got, want)
				if taskOf(got, was.Id).Cost > was.Cost && ran.Floor > x.queue.Floor {
					raised++
				}
			}
		}
	}
	if raised < 1000 {
		t.Errorf("Floor went above just %d tasks that slept", raised)
	}
}

// One that slept long is not ahead of others by all the ticks that it did not get: of two of one weight each one gets every second tick.
func TestATaskThatWakesMakesUpNothing(t *testing.T) {
	for _, x := range []struct {
		name, was string
		n         int
		ran       string
		woke      string
		then      []int
	}{
		{"the first of two", "0: 1/1:0z 2/1:0", 10, "600: 1/1:0z 2/1:600", "600: 1/1:600 2/1:600", []int{1, 2, 1, 2, 1, 2}},
		{"the second of two", "0: 1/1:0 2/1:0z", 10, "600: 1/1:600 2/1:0z", "600: 1/1:600 2/1:600", []int{1, 2, 1, 2, 1, 2}},
		{"of the greatest weight", "0: 1/1:0 2/6:0z", 10, "600: 1/1:600 2/6:0z", "600: 1/1:600 2/6:600", []int{1, 2, 2, 2, 2, 2, 2, 1}},
		{"among three", "0: 1/1:0 2/1:0z 3/1:0", 5, "120: 1/1:180 2/1:0z 3/1:120", "120: 1/1:180 2/1:120 3/1:120", []int{2, 3, 1, 2, 3}},
		{"dearer than Floor still", "0: 1/1:0 2/1:300z", 3, "180: 1/1:180 2/1:300z", "180: 1/1:180 2/1:300", []int{1, 1, 1, 2, 1}},
		{"as dear as Floor then", "0: 1/1:0 2/1:180z", 3, "180: 1/1:180 2/1:180z", "180: 1/1:180 2/1:180", []int{1, 2, 1, 2}},
		{"one less than Floor then", "0: 1/1:0 2/1:179z", 3, "180: 1/1:180 2/1:179z", "180: 1/1:180 2/1:180", []int{1, 2, 1, 2}},
		{"one more than Floor then", "0: 1/1:0 2/1:181z", 3, "180: 1/1:180 2/1:181z", "180: 1/1:180 2/1:181", []int{1, 2, 1, 2}},
		{"nobody got a tick", "600: 1/1:600 2/1:0z", 0, "600: 1/1:600 2/1:0z", "600: 1/1:600 2/1:600", []int{1, 2, 1, 2}},
	} {
		id := 1
		if taskOf(queueOf(x.was), 1).Ready {
			id = 2
		}
		ran, _ := mustRun(t, queueOf(x.was), x.n)
		wantQueue(t, x.name+": behind the run", ran, queueOf(x.ran))
		woke := mustWake(t, ran, id)
		wantQueue(t, x.name+": awake", woke, queueOf(x.woke))
		if _, ids := mustRun(t, woke, len(x.then)); !slices.Equal(ids, x.then) {
			t.Errorf("%s: then %v got ticks, want %v", x.name, ids, x.then)
		}
	}
}

// Where nobody is ready Floor stays where it was, whoever slept below it or above it, till one wakes and gets a tick.
func TestTasksWakeWhereNobodyIsReady(t *testing.T) {
	q := queueOf("100: 1/2:100 2/1:130 3/6:0z")
	q = mustSleep(t, mustSleep(t, q, 1), 2)
	wantQueue(t, "all asleep", q, queueOf("100: 1/2:100z 2/1:130z 3/6:0z"))
	got, id, ok := impl.QueueTick(q)
	wantTicked(t, "QueueTick of all asleep", got, id, ok, impl.Queue{}, -1, false)
	for _, x := range []struct {
		id         int
		woke, then string
	}{
		{1, "100: 1/2:100 2/1:130z 3/6:0z", "130: 1/2:130 2/1:130z 3/6:0z"},
		{2, "100: 1/2:100z 2/1:130 3/6:0z", "190: 1/2:100z 2/1:190 3/6:0z"},
		{3, "100: 1/2:100z 2/1:130z 3/6:100", "110: 1/2:100z 2/1:130z 3/6:110"},
	} {
		woke := mustWake(t, q, x.id)
		wantQueue(t, fmt.Sprintf("%d woke", x.id), woke, queueOf(x.woke))
		got, id, ok := impl.QueueTick(woke)
		wantTicked(t, fmt.Sprintf("QueueTick behind %d woke", x.id), got, id, ok, queueOf(x.then), x.id, true)
	}
}

// One that wakes at ShareTop gets no tick any more, and neither do others then, if it is the first of them.
func TestATaskWakesAtShareTop(t *testing.T) {
	woke := mustWake(t, queueOf("1000000: 1/6:0z"), 1)
	wantQueue(t, "alone", woke, queueOf("1000000: 1/6:1000000"))
	got, id, ok := impl.QueueTick(woke)
	wantTicked(t, "QueueTick alone", got, id, ok, impl.Queue{}, -1, false)
	woke = mustWake(t, queueOf("999990: 1/1:5z 2/6:999990"), 1)
	wantQueue(t, "near ShareTop", woke, queueOf("999990: 1/1:999990 2/6:999990"))
	got, id, ok = impl.QueueTick(woke)
	wantTicked(t, "QueueTick near ShareTop", got, id, ok, impl.Queue{}, -1, false)
}

// A task that sleeps and wakes again and again gets no more ticks than one of its weight that is always ready.
func TestATaskThatOftenSleepsGetsNoMore(t *testing.T) {
	for _, every := range []int{1, 2, 3, 5} {
		for weight := 1; weight <= 6; weight++ {
			q := mustAdd(t, mustAdd(t, impl.Queue{}, 1, weight), 2, weight)
			got := map[int]int{}
			for n := range 240 {
				if n%(2*every) == 0 {
					q = mustSleep(t, q, 1)
				}
				if n%(2*every) == every {
					q = mustWake(t, q, 1)
				}
				next, id := mustTick(t, q)
				q = next
				got[id]++
				if got[1] > got[2]+1 || taskOf(q, 1).Cost > taskOf(q, 2).Cost+tickOf(weight) {
					t.Fatalf("every %d ticks, weight %d: behind %d ticks there is %s", every, weight, n+1, queueText(q))
				}
			}
			if got[1] < 40 || got[2] < 120 {
				t.Errorf("every %d ticks, weight %d: %v", every, weight, got)
			}
		}
	}
}

// A new task, and one that wakes, are in the line at once, and others get their ticks by turns with them.
func TestATaskThatWakesIsLikeANewOne(t *testing.T) {
	for weight := 1; weight <= 6; weight++ {
		ran, _ := mustRun(t, queueOf("0: 1/1:0 2/2:0"), 50)
		added := mustAdd(t, ran, 3, weight)
		slept := mustSleep(t, mustAdd(t, queueOf("0: 1/1:0 2/2:0"), 3, weight), 3)
		slept, _ = mustRun(t, slept, 50)
		woke := mustWake(t, slept, 3)
		wantQueue(t, fmt.Sprintf("weight %d: awake", weight), woke, added)
		_, ids := mustRun(t, woke, 60)
		if !slices.Contains(ids[:3], 3) {
			t.Errorf("weight %d: ticks went to %v", weight, ids)
		}
	}
}
