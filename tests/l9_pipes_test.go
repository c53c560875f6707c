package tests

import (
	"fmt"
	"math/rand"
	"strings"
	"testing"

	"loop.example/quarterdeck/impl"
)

// Promise 81.
func TestPipeOkWhereOneJoinsOrLeaves(t *testing.T) {
	check := func(p impl.Pipe) {
		for _, reads := range []bool{true, false} {
			_, joins := impl.PipeJoin(p, reads)
			_, leaves := impl.PipeLeave(p, reads)
			if (joins || leaves) && (!impl.PipeOk(p) || !pipeIsValid(p)) {
				t.Fatalf("%s: PipeJoin %v is %v and PipeLeave %v, and PipeOk %v", pipeText(p), reads, joins, leaves, impl.PipeOk(p))
			}
		}
	}
	for _, x := range allPipes() {
		check(x.pipe)
	}
	r := rand.New(rand.NewSource(81))
	for range 50000 {
		check(randomPipe(r))
	}
}

// Of a valid pipe that is not gone somebody leaves, so that promise 81 is not kept by nobody ever joining or leaving.
func TestSomebodyLeavesEachPipeThatIsNotGone(t *testing.T) {
	for _, x := range validPipes() {
		_, reader := impl.PipeLeave(x.pipe, true)
		_, writer := impl.PipeLeave(x.pipe, false)
		_, moreReaders := impl.PipeJoin(x.pipe, true)
		_, moreWriters := impl.PipeJoin(x.pipe, false)
		gone := x.pipe.Readers == 0 && x.pipe.Writers == 0
		if reader != (x.pipe.Readers > 0) || writer != (x.pipe.Writers > 0) {
			t.Fatalf("%s: PipeLeave is %v and %v", x.name, reader, writer)
		}
		if moreReaders != (!gone && x.pipe.Readers < 99) || moreWriters != (!gone && x.pipe.Writers < 99) {
			t.Fatalf("%s: PipeJoin is %v and %v", x.name, moreReaders, moreWriters)
		}
	}
}

// Promise 82.
func TestPipePutIsBehindWhatWasThere(t *testing.T) {
	texts := textsToPut()
	for _, x := range validPipes() {
		for _, text := range texts {
			size := len(text)
			p, n, code := impl.PipePut(x.pipe, text)
			what := fmt.Sprintf("%s: PipePut of %d bytes", x.name, size)
			if code == 1 {
				wantPut(t, what, p, n, code, impl.Pipe{}, 0, 1)
				if x.pipe.Writers > 0 {
					t.Fatalf("%s: code 1", what)
				}
				continue
			}
			want := pipeOf(x.pipe.Text+text[:n], x.pipe.Readers, x.pipe.Writers)
			wantPipe(t, what, p, want)
			if !impl.PipeOk(p) || size <= 4 && n != 0 && n != size || code != 0 && n != 0 {
				t.Fatalf("%s: put %d, code %d", what, n, code)
			}
		}
	}
}

// Promise 82: a longer text leaves no room, or is put whole; a small one is put whole wherever there is room for it.
func TestPipePutPutsAsManyAsItMay(t *testing.T) {
	texts := textsToPut()
	for _, x := range validPipes() {
		if x.pipe.Readers == 0 || x.pipe.Writers == 0 {
			continue
		}
		room := 8 - len(x.pipe.Text)
		for _, text := range texts {
			size := len(text)
			_, n, code := impl.PipePut(x.pipe, text)
			whole := size <= room
			part := !whole && size > 4 && room > 0
			if whole && (n != size || code != 0) || part && (n != room || code != 0) || !whole && !part && (n != 0 || code != 2) {
				t.Fatalf("%s: PipePut of %d bytes with room for %d told %d and the code %d", x.name, size, room, n, code)
			}
		}
	}
}

// Promise 83.
func TestPipeTakeAndWhatItLeavesAreWhatWasThere(t *testing.T) {
	for _, x := range validPipes() {
		for _, many := range numbersToTake() {
			p, text, code := impl.PipeTake(x.pipe, many)
			what := fmt.Sprintf("%s: PipeTake of %d", x.name, many)
			if many < 0 || x.pipe.Readers == 0 {
				wantTaken(t, what, p, text, code, impl.Pipe{}, "", 1)
				continue
			}
			if text+p.Text != x.pipe.Text || len(text) != min(many, len(x.pipe.Text)) || !impl.PipeOk(p) {
				t.Fatalf("%s took %q and left %q", what, text, p.Text)
			}
			wantPipe(t, what, p, pipeOf(p.Text, x.pipe.Readers, x.pipe.Writers))
			if fine := many == 0 || text != ""; fine != (code == 0) || !fine && (code == 3) != (x.pipe.Writers == 0) || !fine && code != 2 && code != 3 {
				t.Fatalf("%s took %q, code %d", what, text, code)
			}
		}
	}
}

// Promise 84.
func TestPipeJoinAndPipeLeaveIsAsItWas(t *testing.T) {
	for _, x := range validPipes() {
		for _, reads := range []bool{true, false} {
			what := fmt.Sprintf("%s: PipeJoin %v", x.name, reads)
			more, ok := impl.PipeJoin(x.pipe, reads)
			if !ok {
				wantPipe(t, what, more, impl.Pipe{})
				continue
			}
			if !impl.PipeOk(more) || more.Text != x.pipe.Text || more.Readers+more.Writers != x.pipe.Readers+x.pipe.Writers+1 {
				t.Fatalf("%s: %s", what, pipeText(more))
			}
			back, ok := impl.PipeLeave(more, reads)
			wantSide(t, what+" and PipeLeave", back, ok, x.pipe, true)
		}
	}
}

// Promise 84: from one to 99 and back to none, with bytes there.
func TestPipeJoinUpTo99AndBack(t *testing.T) {
	for _, reads := range []bool{true, false} {
		p, ok := pipeOf("abcdefgh", 1, 1), false
		want := func(n int) impl.Pipe {
			if reads {
				return pipeOf("abcdefgh", n, 1)
			}
			return pipeOf("abcdefgh", 1, n)
		}
		for n := 2; n <= 99; n++ {
			p, ok = impl.PipeJoin(p, reads)
			wantSide(t, fmt.Sprintf("PipeJoin %v to %d", reads, n), p, ok, want(n), true)
		}
		none, ok := impl.PipeJoin(p, reads)
		wantSide(t, "PipeJoin to 100", none, ok, impl.Pipe{}, false)
		for n := 98; n >= 1; n-- {
			p, ok = impl.PipeLeave(p, reads)
			wantSide(t, fmt.Sprintf("PipeLeave %v to %d", reads, n), p, ok, want(n), true)
		}
		p, ok = impl.PipeLeave(p, reads)
		last := want(0)
		if reads {
			last.Text = ""
		}
		wantSide(t, "PipeLeave of the last one", p, ok, last, true)
		none, ok = impl.PipeLeave(p, reads)
		wantSide(t, "PipeLeave of none", none, ok, impl.Pipe{}, false)
	}
}

// Promise 85.
func TestPipeLeaveKeepsBytesButForTheLastReader(t *testing.T) {
	for _, x := range validPipes() {
		for _, reads := range []bool{true, false} {
			p, ok := impl.PipeLeave(x.pipe, reads)
			what := fmt.Sprintf("%s: PipeLeave %v", x.name, reads)
			if !ok {
				wantPipe(t, what, p, impl.Pipe{})
				continue
			}
			want := pipeOf(x.pipe.Text, x.pipe.Readers, x.pipe.Writers-1)
			if reads {
				want = pipeOf(x.pipe.Text, x.pipe.Readers-1, x.pipe.Writers)
			}
			if want.Readers == 0 {
				want.Text = ""
			}
			wantPipe(t, what, p, want)
			if !impl.PipeOk(p) {
				t.Fatalf("%s: %s is not valid", what, pipeText(p))
			}
		}
	}
}

// Promise 86: and where PipeReady tells that one may not, of a pipe that one may read or write, one waits.
func TestPipeReadyTellsWhetherOneWaits(t *testing.T) {
	for _, x := range allPipes() {
		take, put := impl.PipeReady(x.pipe)
		_, _, takes := impl.PipeTake(x.pipe, 1)
		_, _, puts := impl.PipePut(x.pipe, "x")
		if take && takes == 2 || put && puts == 2 {
			t.Fatalf("%s: PipeReady told %v, %v, PipeTake %d, PipePut %d", x.name, take, put, takes, puts)
		}
		if takes != 1 && take != (takes != 2) || puts != 1 && put != (puts != 2) {
			t.Fatalf("%s: PipeReady told %v, %v, PipeTake %d, PipePut %d", x.name, take, put, takes, puts)
		}
	}
}

// pipeWalk is a pipe behind any calls, with all bytes that were put to it, taken from it, and lost with a last reader.
type pipeWalk struct {
	random *rand.Rand
	pipe   impl.Pipe
	put    string
	gone   string
	next   int
}

func newPipeWalk(seed int64) *pipeWalk {
	return &pipeWalk{random: rand.New(rand.NewSource(seed)), pipe: pipeOf("", 1, 1)}
}

// text is one that goes on where the last one that was put in part ended.
func (w *pipeWalk) text() string {
	return flowText(w.next, pick(w.random, []int{0, 1, 1, 2, 3, 4, 4, 5, 6, 8, 9, 20}))
}

// flow puts or takes.
func (w *pipeWalk) flow() {
	if w.random.Intn(2) == 0 {
		text := w.text()
		p, n, code := impl.PipePut(w.pipe, text)
		if code != 1 {
			w.pipe, w.put, w.next = p, w.put+text[:n], w.next+n
		}
		return
	}
	p, text, code := impl.PipeTake(w.pipe, pick(w.random, []int{0, 1, 1, 2, 3, 4, 5, 8, 9}))
	if code != 1 {
		w.pipe, w.gone = p, w.gone+text
	}
}

// sides lets one join or leave; what is there goes with the last reader.
func (w *pipeWalk) sides() {
	reads, more := w.random.Intn(2) == 0, w.random.Intn(3) > 0
	p, ok := impl.PipeLeave(w.pipe, reads)
	if more {
		p, ok = impl.PipeJoin(w.pipe, reads)
	}
	if !ok || p.Readers == 0 && p.Writers == 0 {
		return
	}
	if p.Readers == 0 {
		w.gone += w.pipe.Text
	}
	w.pipe = p
}

// check tells whether each byte that was put is gone, or there, once and in order.
func (w *pipeWalk) check(t *testing.T) {
	t.Helper()
	if w.gone+w.pipe.Text != w.put || !impl.PipeOk(w.pipe) {
		t.Fatalf("%d bytes were put, %d are gone, and there are %s", len(w.put), len(w.gone), pipeText(w.pipe))
	}
}

// Promise 87.
func TestBytesArePutAndTakenInOrder(t *testing.T) {
	for seed := range 200 {
		w := newPipeWalk(int64(seed))
		for range 300 {
			w.flow()
			w.check(t)
		}
		if len(w.put) < 200 || w.put != flowText(0, len(w.put)) {
			t.Fatalf("%d bytes were put, %q", len(w.put), w.put)
		}
	}
}

// Promise 87: also while others join and leave.
func TestBytesGoInOrderWhileOthersJoinAndLeave(t *testing.T) {
	broken, ended := 0, 0
	for seed := range 200 {
		w := newPipeWalk(int64(1000 + seed))
		for range 300 {
			if w.random.Intn(3) == 0 {
				w.sides()
			}
			w.flow()
			w.check(t)
			if w.pipe.Readers == 0 {
				broken++
			}
			if w.pipe.Writers == 0 {
				ended++
			}
		}
	}
	if broken < 100 || ended < 100 {
		t.Errorf("there were no readers %d times, and no writers %d times", broken, ended)
	}
}

// Promise 88.
func TestPipeTakeAgainAndAgainIsAllAndThenTheEnd(t *testing.T) {
	for _, x := range validPipes() {
		if x.pipe.Readers == 0 || x.pipe.Writers != 1 {
			continue
		}
		left, ok := impl.PipeLeave(x.pipe, false)
		if !ok {
			t.Fatalf("%s: PipeLeave of the last writer failed", x.name)
		}
		for _, many := range []int{1, 2, 3, 4, 5, 7, 8, 9, 100} {
			p, all := left, ""
			for len(all) < len(x.pipe.Text) {
				q, text, code := impl.PipeTake(p, many)
				if code != 0 || text == "" {
					t.Fatalf("%s: PipeTake of %d behind %q told %q and the code %d", x.name, many, all, text, code)
				}
				p, all = q, all+text
			}
			if all != x.pipe.Text {
				t.Fatalf("%s: %q was taken", x.name, all)
			}
			for range 3 {
				q, text, code := impl.PipeTake(p, many)
				wantTaken(t, x.name+": PipeTake at the end", q, text, code, pipeOf("", x.pipe.Readers, 0), "", 3)
				p = q
			}
		}
	}
}

// Promise 89: with what is ahead of both texts taken first.
func TestTwoSmallTextsAreTakenWhole(t *testing.T) {
	for ahead := range 9 {
		for one := range min(5, 9-ahead) {
			for two := range min(5, 9-ahead-one) {
				was, first, second := pipeOf(flowText(6, ahead), 2, 2), flowText(1, one), strings.Repeat("é", two)[:two]
				what := fmt.Sprintf("texts of %d and %d bytes behind %d", one, two, ahead)
				p, n, code := impl.PipePut(was, first)
				wantPut(t, what+": the first one", p, n, code, pipeOf(was.Text+first, 2, 2), one, 0)
				p, n, code = impl.PipePut(p, second)
				wantPut(t, what+": the second one", p, n, code, pipeOf(was.Text+first+second, 2, 2), two, 0)
				p, text, code := impl.PipeTake(p, ahead)
				wantTaken(t, what+": what was ahead", p, text, code, pipeOf(first+second, 2, 2), was.Text, 0)
				p, text, code = impl.PipeTake(p, one)
				wantTaken(t, what+": taken first", p, text, code, pipeOf(second, 2, 2), first, 0)
				p, text, code = impl.PipeTake(p, two)
				wantTaken(t, what+": taken second", p, text, code, pipeOf("", 2, 2), second, 0)
			}
		}
	}
}

// A small text that waits is put whole as soon as there is room for all of it, and not before.
func TestASmallTextWaitsForItsRoom(t *testing.T) {
	for size := 1; size <= 4; size++ {
		p, text := pipeOf("abcdefgh", 1, 1), flowText(0, size)
		for room := range size {
			q, n, code := impl.PipePut(p, text)
			wantPut(t, fmt.Sprintf("PipePut of %d bytes with room for %d", size, room), q, n, code, p, 0, 2)
			p, _, _ = impl.PipeTake(q, 1)
		}
		q, n, code := impl.PipePut(p, text)
		wantPut(t, fmt.Sprintf("PipePut of %d bytes with room for all", size), q, n, code, pipeOf("abcdefgh"[size:]+text, 1, 1), size, 0)
	}
}

func TestPipeCallsOfInvalidPipes(t *testing.T) {
	for _, x := range invalidPipes() {
		if impl.PipeOk(x.pipe) {
			t.Fatalf("%s: PipeOk", x.name)
		}
		wantReady(t, x.name, x.pipe, false, false)
		for _, size := range []int{0, 1, 4, 5, 8, 9} {
			p, n, code := impl.PipePut(x.pipe, flowText(0, size))
			wantPut(t, fmt.Sprintf("%s: PipePut of %d bytes", x.name, size), p, n, code, impl.Pipe{}, 0, 1)
		}
		for _, many := range numbersToTake() {
			p, text, code := impl.PipeTake(x.pipe, many)
			wantTaken(t, fmt.Sprintf("%s: PipeTake of %d", x.name, many), p, text, code, impl.Pipe{}, "", 1)
		}
		for _, reads := range []bool{true, false} {
			p, ok := impl.PipeJoin(x.pipe, reads)
			wantSide(t, x.name+": PipeJoin", p, ok, impl.Pipe{}, false)
			p, ok = impl.PipeLeave(x.pipe, reads)
			wantSide(t, x.name+": PipeLeave", p, ok, impl.Pipe{}, false)
		}
	}
}
