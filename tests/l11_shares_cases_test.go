package tests

import (
	"fmt"
	"math"
	"slices"
	"strings"
	"testing"

	"loop.example/quarterdeck/impl"
)

func TestShareConstants(t *testing.T) {
	if impl.TaskMax != 6 || impl.WeightMax != 6 || impl.ShareUnit != 60 || impl.ShareTop != 1000000 {
		t.Errorf("the constants are %d, %d, %d and %d", impl.TaskMax, impl.WeightMax, impl.ShareUnit, impl.ShareTop)
	}
}

func TestQueueOkCases(t *testing.T) {
	for _, x := range []struct {
		name, queue string
		want        bool
	}{
		{"without tasks", "0:", true},
		{"without tasks, Floor at ShareTop", "1000000:", true},
		{"one task", "0: 7/1:0", true},
		{"the least number", "0: 0/1:0", true},
		{"the greatest number", "0: 99/1:0", true},
		{"the greatest weight", "0: 7/6:0", true},
		{"ready, as dear as Floor", "60: 7/1:60", true},
		{"ready, one more", "60: 7/1:61", true},
		{"ready at ShareTop", "60: 7/1:1000000", true},
		{"Floor and cost at ShareTop", "1000000: 7/1:1000000", true},
		{"asleep below Floor", "60: 7/1:59z", true},
		{"asleep at 0, Floor at ShareTop", "1000000: 7/1:0z", true},
		{"asleep above Floor", "60: 7/1:100z", true},
		{"Floor below all that are ready", "10: 1/1:70 2/1:80", true},
		{"TaskMax tasks", "0: 0/1:0 1/2:5 2/3:9 3/4:0z 4/5:7 99/6:0", true},
		{"one more than TaskMax", "0: 0/1:0 1/2:5 2/3:9 3/4:0 4/5:7 5/6:0 6/1:0", false},
		{"one more than TaskMax, all asleep", "0: 0/1:0z 1/2:5z 2/3:9z 3/4:0z 4/5:7z 5/6:0z 6/1:0z", false},
		{"the number -1", "0: -1/1:0", false},
		{"the number 100", "0: 100/1:0", false},
		{"the number 100, asleep", "0: 1/1:0 100/1:0z", false},
		{"two of a number", "0: 4/1:0 4/1:0", false},
		{"two of a number, one asleep", "0: 4/1:0 4/2:60z", false},
		{"numbers that descend", "0: 5/1:0 4/1:0", false},
		{"numbers that descend at the end", "0: 1/1:0 3/1:0 2/1:0", false},
		{"a number once more at the end", "0: 1/1:0 3/1:0 1/1:0", false},
		{"weight 0", "0: 4/0:0", false},
		{"weight 0, asleep", "0: 4/0:0z", false},
		{"weight 7", "0: 4/7:0", false},
		{"weight -1", "0: 4/-1:0", false},
		{"a weight of the last one", "0: 4/1:0 5/7:0", false},
		{"cost -1", "0: 4/1:-1z", false},
		{"cost and Floor -1", "-1: 4/1:-1", false},
		{"a cost above ShareTop", "0: 4/1:1000001", false},
		{"a cost above ShareTop, asleep", "0: 4/1:1000001z", false},
		{"Floor -1", "-1:", false},
		{"Floor -1, with tasks", "-1: 4/1:0", false},
		{"Floor above ShareTop", "1000001:", false},
		{"Floor above ShareTop, with one asleep", "1000001: 4/1:0z", false},
		{"ready below Floor", "60: 4/1:59", false},
		{"ready at 0, below Floor", "1: 4/1:0", false},
		{"the last one ready below Floor", "60: 4/1:60 5/1:0z 6/1:59", false},
		{"the first one ready below Floor", "60: 4/1:59 5/1:60", false},
	} {
		if got := impl.QueueOk(queueOf(x.queue)); got != x.want {
			t.Errorf("%s: QueueOk of %s is %v", x.name, x.queue, got)
		}
	}
}

// orNothing is a queue of a text, or, for none, nothing.
func orNothing(text string) impl.Queue {
	if text == "" {
		return impl.Queue{}
	}
	return queueOf(text)
}

func TestQueueAddCases(t *testing.T) {
	for _, x := range []struct {
		name, was  string
		id, weight int
		want       string
	}{
		{"to none", "0:", 5, 1, "0: 5/1:0"},
		{"to none, above Floor 0", "77:", 0, 6, "77: 0/6:77"},
		{"at ShareTop", "1000000:", 99, 3, "1000000: 99/3:1000000"},
		{"at the beginning", "40: 10/2:40 20/3:100", 0, 1, "40: 0/1:40 10/2:40 20/3:100"},
		{"at the beginning, just ahead", "40: 10/2:40 20/3:100", 9, 6, "40: 9/6:40 10/2:40 20/3:100"},
		{"between", "40: 10/2:40 20/3:100", 11, 1, "40: 10/2:40 11/1:40 20/3:100"},
		{"between, just ahead", "40: 10/2:40 20/3:100", 19, 4, "40: 10/2:40 19/4:40 20/3:100"},
		{"at the end", "40: 10/2:40 20/3:100", 21, 1, "40: 10/2:40 20/3:100 21/1:40"},
		{"at the end, the greatest number", "40: 10/2:40 20/3:100", 99, 5, "40: 10/2:40 20/3:100 99/5:40"},
		{"among some that are asleep", "40: 10/2:0z 20/3:100z", 15, 1, "40: 10/2:0z 15/1:40 20/3:100z"},
		{"below all that are ready", "40: 10/2:400 20/3:500", 15, 2, "40: 10/2:400 15/2:40 20/3:500"},
		{"the last one that there may be, ahead", "0: 1/1:0 2/2:3 3/3:0z 4/4:0 5/5:0", 0, 6, "0: 0/6:0 1/1:0 2/2:3 3/3:0z 4/4:0 5/5:0"},
		{"the last one that there may be, between", "0: 1/1:0 2/2:3 3/3:0z 5/4:0 6/5:0", 4, 6, "0: 1/1:0 2/2:3 3/3:0z 4/6:0 5/4:0 6/5:0"},
		{"the last one that there may be, behind", "0: 1/1:0 2/2:3 3/3:0z 4/4:0 5/5:0", 6, 6, "0: 1/1:0 2/2:3 3/3:0z 4/4:0 5/5:0 6/6:0"},
		{"one too many", "0: 1/1:0 2/2:3 3/3:0z 4/4:0 5/5:0 6/6:0", 7, 1, ""},
		{"one too many, all asleep", "0: 1/1:0z 2/2:3z 3/3:0z 4/4:0z 5/5:0z 6/6:0z", 0, 1, ""},
		{"one of TaskMax once more", "0: 1/1:0 2/2:3 3/3:0z 4/4:0 5/5:0 6/6:0", 3, 3, ""},
		{"one that is there", "0: 4/1:0", 4, 1, ""},
		{"one that is there, with another weight", "0: 4/1:0 5/2:0", 5, 3, ""},
		{"one that is there, asleep", "30: 4/1:0z", 4, 1, ""},
		{"the number -1", "0:", -1, 1, ""},
		{"the number 100", "0:", 100, 1, ""},
		{"the least number of all", "0: 4/1:0", math.MinInt, 1, ""},
		{"the greatest number of all", "0: 4/1:0", math.MaxInt, 1, ""},
		{"weight 0", "0:", 4, 0, ""},
		{"weight 7", "0:", 4, 7, ""},
		{"weight -1", "0: 5/1:0", 4, -1, ""},
		{"the least weight of all", "0:", 4, math.MinInt, ""},
		{"the greatest weight of all", "0:", 4, math.MaxInt, ""},
		{"number and weight that are none", "0:", 100, 7, ""},
		{"to one below Floor", "30: 4/1:0", 5, 1, ""},
		{"to numbers that descend", "0: 5/1:0 4/1:0", 6, 1, ""},
		{"to Floor -1", "-1:", 6, 1, ""},
		{"to Floor above ShareTop", "1000001:", 6, 1, ""},
		{"to seven", "0: 1/1:0 2/2:3 3/3:0z 4/4:0 5/5:0 6/6:0 7/1:0", 8, 1, ""},
	} {
		got, ok := impl.QueueAdd(queueOf(x.was), x.id, x.weight)
		wantQueueAnd(t, "QueueAdd, "+x.name, got, ok, orNothing(x.want), x.want != "")
	}
}

// taskCase is a call for a number, written out; without a queue behind it it fails with nothing.
type taskCase struct {
	name, was string
	id        int
	want      string
}

func wantTaskCases(t *testing.T, call string, do func(q impl.Queue, id int) (impl.Queue, bool), list []taskCase) {
	t.Helper()
	for _, x := range list {
		got, ok := do(queueOf(x.was), x.id)
		wantQueueAnd(t, call+", "+x.name, got, ok, orNothing(x.want), x.want != "")
	}
}

// noTaskCases fail with nothing, whatever is to be done with a task.
func noTaskCases() []taskCase {
	return []taskCase{
		{"of none", "0:", 0, ""},
		{"one that is not there", "0: 4/1:0", 5, ""},
		{"one that is not there, between", "0: 4/1:0 6/1:0", 5, ""},
		{"one that is not there, of TaskMax", "0: 1/1:0 2/2:3 3/3:0z 4/4:0 5/5:0 6/6:0", 0, ""},
		{"-1", "0: 4/1:0", -1, ""},
		{"100", "0: 4/1:0 99/1:0", 100, ""},
		{"the least number of all", "0: 0/1:0", math.MinInt, ""},
		{"the greatest number of all", "0: 99/1:0", math.MaxInt, ""},
		{"a number that is one's if it is cut", "0: 4/1:0", 1<<32 + 4, ""},
		{"one that is below Floor", "30: 4/1:29", 4, ""},
		{"one, another one being below Floor", "30: 4/1:30 5/1:29", 4, ""},
		{"one, another one asleep costing less than 0", "30: 4/1:30 5/1:-1z", 4, ""},
		{"one of a number that two have", "0: 4/1:0 4/1:0", 4, ""},
		{"one of a number that is none", "0: 100/1:0", 100, ""},
		{"one of the number -1", "0: -1/1:0", -1, ""},
		{"one of the weight 0", "0: 4/0:0", 4, ""},
		{"one of the weight 7", "0: 4/7:0z", 4, ""},
		{"one of numbers that descend", "0: 5/1:0 4/1:0", 4, ""},
		{"one above ShareTop", "0: 4/1:1000001", 4, ""},
		{"one, with Floor -1", "-1: 4/1:0", 4, ""},
		{"one asleep, with Floor above ShareTop", "1000001: 4/1:0z", 4, ""},
		{"one of seven", "0: 1/1:0 2/2:3 3/3:0z 4/4:0 5/5:0 6/6:0 7/1:0", 7, ""},
	}
}

func TestQueueLessCases(t *testing.T) {
	wantTaskCases(t, "QueueLess", impl.QueueLess, append(noTaskCases(), []taskCase{
		{"the only one", "40: 7/1:90", 7, "40:"},
		{"the only one, asleep", "40: 7/1:0z", 7, "40:"},
		{"the next one", "0: 1/1:0 2/1:30", 1, "0: 2/1:30"},
		{"the next one, at the end", "10: 1/1:50 2/1:10", 2, "10: 1/1:50"},
		{"another one", "0: 1/1:0 2/1:30", 2, "0: 1/1:0"},
		{"between", "5: 0/1:5 50/2:6 99/3:7", 50, "5: 0/1:5 99/3:7"},
		{"the first one", "5: 0/1:5 50/2:6 99/3:7", 0, "5: 50/2:6 99/3:7"},
		{"the last one", "5: 0/1:5 50/2:6 99/3:7", 99, "5: 0/1:5 50/2:6"},
		{"one asleep", "5: 0/1:5 50/2:0z 99/3:7", 50, "5: 0/1:5 99/3:7"},
		{"the only one that is ready", "5: 0/1:9z 50/2:6 99/3:0z", 50, "5: 0/1:9z 99/3:0z"},
		{"one of TaskMax", "0: 1/1:0 2/2:3 3/3:0z 4/4:0 5/5:0 6/6:0", 4, "0: 1/1:0 2/2:3 3/3:0z 5/5:0 6/6:0"},
		{"one at ShareTop", "0: 1/1:0 2/2:1000000", 2, "0: 1/1:0"},
	}...))
}

func TestQueueSleepCases(t *testing.T) {
	wantTaskCases(t, "QueueSleep", impl.QueueSleep, append(noTaskCases(), []taskCase{
		{"the only one", "40: 7/1:90", 7, "40: 7/1:90z"},
		{"the only one, at Floor", "40: 7/1:40", 7, "40: 7/1:40z"},
		{"the next one", "0: 1/1:0 2/1:30", 1, "0: 1/1:0z 2/1:30"},
		{"another one", "0: 1/1:0 2/1:30", 2, "0: 1/1:0 2/1:30z"},
		{"the last one that is ready", "5: 0/1:9z 50/2:6 99/3:0z", 50, "5: 0/1:9z 50/2:6z 99/3:0z"},
		{"one that is asleep", "40: 7/1:90z", 7, "40: 7/1:90z"},
		{"one that is asleep, below Floor", "40: 7/1:0z 8/1:50", 7, "40: 7/1:0z 8/1:50"},
		{"one of TaskMax", "0: 1/1:0 2/2:3 3/3:0z 4/4:0 5/5:0 6/6:0", 6, "0: 1/1:0 2/2:3 3/3:0z 4/4:0 5/5:0 6/6:0z"},
		{"one at ShareTop", "1000000: 1/1:1000000", 1, "1000000: 1/1:1000000z"},
	}...))
}

func TestQueueWakeCases(t *testing.T) {
	wantTaskCases(t, "QueueWake", impl.QueueWake, append(noTaskCases(), []taskCase{
		{"one that costs 0, with Floor at 0", "0: 7/1:0z", 7, "0: 7/1:0"},
		{"one that costs less than Floor", "100: 7/1:40z", 7, "100: 7/1:100"},
		{"one that costs one less than Floor", "100: 7/2:99z", 7, "100: 7/2:100"},
		{"one that costs as much as Floor", "100: 7/3:100z", 7, "100: 7/3:100"},
		{"one that costs one more than Floor", "100: 7/3:101z", 7, "100: 7/3:101"},
		{"one that costs much more than Floor", "100: 7/6:1000000z", 7, "100: 7/6:1000000"},
		{"one that costs 0, with Floor at ShareTop", "1000000: 7/6:0z", 7, "1000000: 7/6:1000000"},
		{"one that is ready, at Floor", "100: 7/1:100", 7, "100: 7/1:100"},
		{"one that is ready, above Floor", "100: 7/1:170", 7, "100: 7/1:170"},
		{"one that is ready, with Floor at 0", "0: 7/1:170", 7, "0: 7/1:170"},
		{"the first one, others being asleep", "100: 7/1:40z 8/1:30z 9/1:500z", 7, "100: 7/1:100 8/1:30z 9/1:500z"},
		{"one between, others being asleep", "100: 7/1:40z 8/1:30z 9/1:500z", 8, "100: 7/1:40z 8/1:100 9/1:500z"},
		{"the last one, others being asleep", "100: 7/1:40z 8/1:30z 9/1:500z", 9, "100: 7/1:40z 8/1:30z 9/1:500"},
		{"one that costs less than all that are ready", "100: 7/1:160 8/1:40z 9/1:120", 8, "100: 7/1:160 8/1:100 9/1:120"},
		{"one that is ready, while others sleep below Floor", "100: 7/1:160 8/1:40z 9/1:0z", 7, "100: 7/1:160 8/1:40z 9/1:0z"},
		{"one of TaskMax", "50: 1/1:50 2/2:53 3/3:0z 4/4:50 5/5:0z 6/6:50", 3, "50: 1/1:50 2/2:53 3/3:50 4/4:50 5/5:0z 6/6:50"},
		{"the last one of TaskMax", "50: 1/1:0z 2/2:0z 3/3:0z 4/4:0z 5/5:0z 6/6:0z", 6, "50: 1/1:0z 2/2:0z 3/3:0z 4/4:0z 5/5:0z 6/6:50"},
	}...))
}

func TestQueueNextCases(t *testing.T) {
	for _, x := range []struct {
		name, queue string
		want        int
	}{
		{"of none", "0:", -1},
		{"of one", "0: 0/1:0", 0},
		{"of one above Floor", "30: 99/1:1000000", 99},
		{"of one that is asleep", "0: 7/1:0z", -1},
		{"of some that are asleep", "30: 7/1:0z 8/1:30z 9/1:60z", -1},
		{"the cheapest one, first", "0: 1/1:10 2/1:11 3/1:12", 1},
		{"the cheapest one, between", "0: 1/1:11 2/1:10 3/1:12", 2},
		{"the cheapest one, last", "0: 1/6:12 2/6:11 3/1:10", 3},
		{"as cheap as others", "0: 1/1:10 2/6:10 3/1:10", 1},
		{"as cheap as others behind it", "0: 1/1:11 2/1:10 3/6:10", 2},
		{"as cheap as one that is asleep", "0: 1/1:10z 2/1:10 3/1:10", 2},
		{"dearer than one that is asleep", "100: 1/1:0z 2/1:500 3/1:400 4/1:100z", 3},
		{"the only one that is ready", "0: 1/1:0z 2/1:0z 3/1:1000000", 3},
		{"of TaskMax", "5: 1/1:9 2/2:8 3/3:7 4/4:0z 5/5:6 6/6:6", 5},
		{"of seven", "5: 1/1:9 2/2:8 3/3:7 4/4:0z 5/5:6 6/6:6 7/1:5", -1},
		{"of one below Floor", "30: 1/1:29", -1},
		{"with another one below Floor", "30: 1/1:30 2/1:29", -1},
		{"of the number 100", "0: 100/1:0", -1},
		{"of numbers that descend", "0: 2/1:0 1/1:0", -1},
		{"of the weight 0", "0: 2/0:0", -1},
		{"of the weight 7", "0: 2/7:0", -1},
		{"with Floor -1", "-1: 2/1:0", -1},
		{"with one above ShareTop", "0: 2/1:0 3/1:1000001", -1},
	} {
		if got := impl.QueueNext(queueOf(x.queue)); got != x.want {
			t.Errorf("%s: QueueNext of %s is %d, want %d", x.name, x.queue, got, x.want)
		}
	}
}

func TestQueueTickCases(t *testing.T) {
	for _, x := range []struct {
		name, was string
		id        int
		want      string
	}{
		{"weight 1, nobody else", "0: 5/1:0", 5, "60: 5/1:60"},
		{"weight 2, nobody else", "0: 5/2:0", 5, "30: 5/2:30"},
		{"weight 3, nobody else", "0: 5/3:0", 5, "20: 5/3:20"},
		{"weight 4, nobody else", "0: 5/4:0", 5, "15: 5/4:15"},
		{"weight 5, nobody else", "0: 5/5:0", 5, "12: 5/5:12"},
		{"weight 6, nobody else", "0: 5/6:0", 5, "10: 5/6:10"},
		{"nobody else, above Floor", "7: 0/1:500", 0, "560: 0/1:560"},
		{"Floor goes up to another one", "0: 1/1:0 2/1:30", 1, "30: 1/1:60 2/1:30"},
		{"Floor goes up to the same one", "0: 1/6:0 2/1:30", 1, "10: 1/6:10 2/1:30"},
		{"Floor goes up to both", "0: 1/2:0 2/1:30", 1, "30: 1/2:30 2/1:30"},
		{"Floor goes up to one in between", "0: 1/1:0 2/1:40 3/1:20", 1, "20: 1/1:60 2/1:40 3/1:20"},
		{"Floor stays, as another one is at it", "0: 1/1:0 2/1:0", 1, "0: 1/1:60 2/1:0"},
		{"Floor stays, as the last one is at it", "20: 1/1:50 4/2:20 7/3:25 8/1:20", 4, "20: 1/1:50 4/2:50 7/3:25 8/1:20"},
		{"Floor was below all, and goes up to the same one", "0: 1/1:500 2/1:700", 1, "560: 1/1:560 2/1:700"},
		{"Floor was below all, and goes up to another one", "0: 1/1:500 2/1:510", 1, "510: 1/1:560 2/1:510"},
		{"the last one", "20: 1/1:50 4/2:40 7/3:20", 7, "40: 1/1:50 4/2:40 7/3:40"},
		{"the first one of several", "20: 1/1:50 4/2:40 7/3:40", 4, "40: 1/1:50 4/2:70 7/3:40"},
		{"one asleep is cheaper", "100: 1/1:0z 2/2:100 3/1:200", 2, "130: 1/1:0z 2/2:130 3/1:200"},
		{"one asleep is as cheap", "100: 1/1:100z 2/2:100", 2, "130: 1/1:100z 2/2:130"},
		{"one asleep is cheaper than it is then", "100: 1/1:110z 2/1:100", 2, "160: 1/1:110z 2/1:160"},
		{"all others asleep", "100: 1/1:0z 2/1:150 3/1:100z", 2, "210: 1/1:0z 2/1:210 3/1:100z"},
		{"TaskMax tasks", "5: 1/1:9 2/2:8 3/3:7 4/4:0z 5/5:6 6/6:6", 5, "6: 1/1:9 2/2:8 3/3:7 4/4:0z 5/5:18 6/6:6"},
		{"to ShareTop, weight 1", "999940: 1/1:999940", 1, "1000000: 1/1:1000000"},
		{"to ShareTop, weight 6", "999990: 1/6:999990", 1, "1000000: 1/6:1000000"},
		{"to one below ShareTop", "0: 1/1:999939", 1, "999999: 1/1:999999"},
		{"to one above ShareTop, weight 1", "999941: 1/1:999941", -1, ""},
		{"to one above ShareTop, weight 6", "999991: 1/6:999991", -1, ""},
		{"at ShareTop", "0: 1/6:1000000", -1, ""},
		{"all at ShareTop", "1000000: 1/6:1000000 2/1:1000000", -1, ""},
		{"another one at ShareTop", "0: 1/1:1000000 2/1:0", 2, "60: 1/1:1000000 2/1:60"},
		{"one asleep at ShareTop", "0: 1/1:1000000z 2/1:0", 2, "60: 1/1:1000000z 2/1:60"},
		{"to more than ShareTop, where another one could", "0: 1/1:999950 2/6:999960", -1, ""},
		{"to more than ShareTop, where one of as much could", "0: 1/1:999950 2/6:999950", -1, ""},
		{"to less than ShareTop, where one of as much could not", "0: 1/6:999950 2/1:999950", 1, "999950: 1/6:999960 2/1:999950"},
		{"none", "0:", -1, ""},
		{"none is ready", "30: 1/1:30z 2/1:0z", -1, ""},
		{"one below Floor", "30: 1/1:29", -1, ""},
		{"another one below Floor", "30: 1/1:30 2/1:29", -1, ""},
		{"numbers that descend", "0: 2/1:0 1/1:0", -1, ""},
		{"two of a number", "0: 2/1:0 2/1:0", -1, ""},
		{"the number 100", "0: 100/1:0", -1, ""},
		{"the number -1", "0: -1/1:0", -1, ""},
		{"weight 0", "0: 1/0:0", -1, ""},
		{"weight 7", "0: 1/7:0", -1, ""},
		{"weight 0 of one that is asleep", "0: 1/1:0 2/0:0z", -1, ""},
		{"Floor -1", "-1: 1/1:0", -1, ""},
		{"cost above ShareTop", "0: 1/1:0 2/1:1000001", -1, ""},
		{"seven", "0: 1/1:0 2/2:3 3/3:0z 4/4:0 5/5:0 6/6:0 7/1:0", -1, ""},
	} {
		got, id, ok := impl.QueueTick(queueOf(x.was))
		wantTicked(t, "QueueTick, "+x.name, got, id, ok, orNothing(x.want), x.id, x.want != "")
	}
}

// What fails on the way fails whole, though some ticks could be given.
func TestQueueRunCases(t *testing.T) {
	for _, x := range []struct {
		name, was string
		n         int
		ids, want string
	}{
		{"two weights", "0: 1/1:0 2/2:0", 6, "1 2 2 1 2 2", "120: 1/1:120 2/2:120"},
		{"one weight", "0: 3/1:0 4/1:0 5/1:0", 7, "3 4 5 3 4 5 3", "120: 3/1:180 4/1:120 5/1:120"},
		{"the least and the greatest weight", "0: 1/1:0 2/6:0", 8, "1 2 2 2 2 2 2 1", "60: 1/1:120 2/6:60"},
		{"three weights", "0: 1/4:0 2/5:0 3/6:0", 8, "1 2 3 3 2 1 3 2", "30: 1/4:30 2/5:36 3/6:30"},
		{"while one is asleep", "0: 1/1:0z 2/2:0 3/3:0", 5, "2 3 3 2 3", "60: 1/1:0z 2/2:60 3/3:60"},
		{"while all others are asleep", "0: 1/1:0z 2/2:0 3/3:50z", 3, "2 2 2", "90: 1/1:0z 2/2:90 3/3:50z"},
		{"till one has made up", "0: 1/1:0 2/1:300", 7, "1 1 1 1 1 1 2", "360: 1/1:360 2/1:360"},
		{"no tick of none", "7:", 0, "", "7:"},
		{"no tick of one", "7: 1/1:30", 0, "", "7: 1/1:30"},
		{"no tick where none is ready", "7: 1/1:0z", 0, "", "7: 1/1:0z"},
		{"no tick at ShareTop", "1000000: 1/1:1000000", 0, "", "1000000: 1/1:1000000"},
		{"a tick", "7: 1/1:30", 1, "1", "90: 1/1:90"},
		{"a tick of none", "7:", 1, "", ""},
		{"a tick where none is ready", "7: 1/1:0z", 1, "", ""},
		{"a tick at ShareTop", "1000000: 1/1:1000000", 1, "", ""},
		{"to ShareTop", "999880: 1/1:999880", 2, "1 1", "1000000: 1/1:1000000"},
		{"beyond ShareTop", "999880: 1/1:999880", 3, "", ""},
		{"near ShareTop, of two", "999900: 1/1:999900 2/2:999900", 3, "1 2 2", "999960: 1/1:999960 2/2:999960"},
		{"beyond ShareTop, of two", "999900: 1/1:999900 2/2:999900", 4, "", ""},
		{"far beyond ShareTop", "999900: 1/1:999900 2/2:999900", 1000, "", ""},
		{"-1 tick", "0: 1/1:0", -1, "", ""},
		{"1001 ticks", "0: 1/1:0", 1001, "", ""},
		{"the least number of ticks", "0: 1/1:0", math.MinInt, "", ""},
		{"the greatest number of ticks", "0: 1/1:0", math.MaxInt, "", ""},
		{"-1 tick of none", "0:", -1, "", ""},
		{"no tick of one below Floor", "30: 1/1:29", 0, "", ""},
		{"no tick of numbers that descend", "0: 2/1:0 1/1:0", 0, "", ""},
		{"no tick of weight 7", "0: 1/7:0", 0, "", ""},
		{"no tick with Floor -1", "-1:", 0, "", ""},
		{"ticks of the number 100", "0: 100/1:0", 5, "", ""},
		{"ticks of seven", "0: 1/1:0 2/2:3 3/3:0z 4/4:0 5/5:0 6/6:0 7/1:0", 5, "", ""},
	} {
		got, ids, ok := impl.QueueRun(queueOf(x.was), x.n)
		need := []int{}
		for _, word := range strings.Fields(x.ids) {
			need = append(need, int(word[0]-'0'))
		}
		wantRan(t, "QueueRun, "+x.name, got, ids, ok, orNothing(x.want), need, x.want != "")
	}
}

func TestLongQueueRuns(t *testing.T) {
	for weight := 1; weight <= 6; weight++ {
		for _, n := range []int{60, 999, 1000} {
			q := impl.Queue{Tasks: []impl.Task{{Id: 42, Weight: weight, Ready: true}}}
			want := impl.Queue{Tasks: []impl.Task{{Id: 42, Weight: weight, Cost: n * tickOf(weight), Ready: true}}, Floor: n * tickOf(weight)}
			got, ids, ok := impl.QueueRun(q, n)
			wantRan(t, fmt.Sprintf("%d ticks of weight %d", n, weight), got, ids, ok, want, slices.Repeat([]int{42}, n), true)
		}
	}
	equal := queueOf("0: 0/2:0 1/2:0 2/2:0 3/2:0 4/2:0")
	got, ids, ok := impl.QueueRun(equal, 1000)
	wantRan(t, "1000 ticks of five", got, ids, ok, queueOf("6000: 0/2:6000 1/2:6000 2/2:6000 3/2:6000 4/2:6000"), slices.Repeat([]int{0, 1, 2, 3, 4}, 200), true)
}

// Six tasks, each of another weight: by the time that the one of weight 1 gets its second tick each one has got as many as its weight.
func TestARoundOfAllWeights(t *testing.T) {
	got, ids, ok := impl.QueueRun(queueOf("0: 1/1:0 2/2:0 3/3:0 4/4:0 5/5:0 6/6:0"), 21)
	need := []int{1, 2, 3, 4, 5, 6, 6, 5, 4, 3, 6, 5, 2, 4, 6, 5, 3, 6, 4, 5, 6}
	wantRan(t, "21 ticks", got, ids, ok, queueOf("60: 1/1:60 2/2:60 3/3:60 4/4:60 5/5:60 6/6:60"), need, true)
}
