package tests

import (
	"fmt"
	"math/rand"
	"testing"

	"loop.example/quarterdeck/impl"
)

// pipeIsValid tells, without the program, whether a pipe is valid.
func pipeIsValid(p impl.Pipe) bool {
	for _, n := range []int{p.Readers, p.Writers} {
		if n < 0 || n > 99 {
			return false
		}
	}
	return len(p.Text) == 0 || len(p.Text) <= 8 && p.Readers != 0
}

// modelPut puts byte by byte.
func modelPut(p impl.Pipe, text string) (impl.Pipe, int, int) {
	if !pipeIsValid(p) || p.Writers == 0 {
		return impl.Pipe{}, 0, 1
	}
	if p.Readers == 0 {
		return p, 0, 4
	}
	all := p.Text + text
	if text != "" && (len(p.Text) == 8 || len(text) < 5 && len(all) > 8) {
		return p, 0, 2
	}
	n := 0
	for n < len(text) && len(p.Text) < 8 {
		p.Text += text[n : n+1]
		n++
	}
	return p, n, 0
}

// modelTake takes byte by byte.
func modelTake(p impl.Pipe, many int) (impl.Pipe, string, int) {
	if !pipeIsValid(p) || p.Readers == 0 || many < 0 {
		return impl.Pipe{}, "", 1
	}
	if many > 0 && p.Text == "" && p.Writers == 0 {
		return p, "", 3
	}
	if many > 0 && p.Text == "" {
		return p, "", 2
	}
	text := ""
	for ; many > 0 && p.Text != ""; many-- {
		text += p.Text[:1]
		p.Text = p.Text[1:]
	}
	return p, text, 0
}

// modelSide is one more, or one less, who reads, or writes.
func modelSide(p impl.Pipe, reads bool, more bool) (impl.Pipe, bool) {
	n, has := impl.Pipe{Text: p.Text, Readers: p.Readers, Writers: p.Writers + 1}, p.Writers
	if reads {
		n, has = impl.Pipe{Text: p.Text, Readers: p.Readers + 1, Writers: p.Writers}, p.Readers
	}
	if !more {
		n.Readers, n.Writers = 2*p.Readers-n.Readers, 2*p.Writers-n.Writers
		if n.Readers == 0 {
			n.Text = ""
		}
	}
	may := more && has < 99 && p.Readers+p.Writers > 0 || !more && has > 0
	if !pipeIsValid(p) || !may {
		return impl.Pipe{}, false
	}
	return n, true
}

// modelReady tells whether one need not wait to take, and to put.
func modelReady(p impl.Pipe) (bool, bool) {
	ok := pipeIsValid(p)
	return ok && (len(p.Text) > 0 || p.Writers == 0), ok && (len(p.Text) < 8 || p.Readers == 0)
}

// wantPipeLikeModel checks all that is asked of one pipe, but for puts and takes.
func wantPipeLikeModel(t *testing.T, what string, p impl.Pipe) {
	t.Helper()
	if impl.PipeOk(p) != pipeIsValid(p) {
		t.Fatalf("%s: PipeOk is %v", what, impl.PipeOk(p))
	}
	take, put := modelReady(p)
	wantReady(t, what, p, take, put)
	for _, reads := range []bool{true, false} {
		want, need := modelSide(p, reads, true)
		got, ok := impl.PipeJoin(p, reads)
		wantSide(t, fmt.Sprintf("%s: PipeJoin %v", what, reads), got, ok, want, need)
		want, need = modelSide(p, reads, false)
		got, ok = impl.PipeLeave(p, reads)
		wantSide(t, fmt.Sprintf("%s: PipeLeave %v", what, reads), got, ok, want, need)
	}
}

func wantPutLikeModel(t *testing.T, p impl.Pipe, text string) int {
	t.Helper()
	want, needN, need := modelPut(p, text)
	got, n, code := impl.PipePut(p, text)
	wantPut(t, fmt.Sprintf("%s: PipePut of %d bytes", pipeText(p), len(text)), got, n, code, want, needN, need)
	return code
}

func wantTakeLikeModel(t *testing.T, p impl.Pipe, many int) int {
	t.Helper()
	want, needText, need := modelTake(p, many)
	got, text, code := impl.PipeTake(p, many)
	wantTaken(t, fmt.Sprintf("%s: PipeTake of %d", pipeText(p), many), got, text, code, want, needText, need)
	return code
}

// All numbers of readers, of writers and of bytes, one beyond each limit, too.
func TestAllPipesAreLikeTheModel(t *testing.T) {
	for readers := -1; readers <= 100; readers++ {
		for writers := -1; writers <= 100; writers++ {
			for many := range 10 {
				p := pipeOf(flowText(readers+writers+2, many), readers, writers)
				wantPipeLikeModel(t, pipeText(p), p)
			}
		}
	}
	for _, x := range allPipes() {
		wantPipeLikeModel(t, x.name, x.pipe)
	}
}

// All sizes, and all numbers of bytes, of all pipes; each code is met.
func TestPutsAndTakesAreLikeTheModel(t *testing.T) {
	puts, takes, texts := map[int]int{}, map[int]int{}, textsToPut()
	for _, x := range allPipes() {
		for _, text := range texts {
			puts[wantPutLikeModel(t, x.pipe, text)]++
		}
		for _, many := range numbersToTake() {
			takes[wantTakeLikeModel(t, x.pipe, many)]++
		}
	}
	for _, code := range []int{impl.FlowFine, impl.FlowBad, impl.FlowWait} {
		if puts[code] == 0 || takes[code] == 0 {
			t.Errorf("the code %d was told by %d puts and %d takes", code, puts[code], takes[code])
		}
	}
	if puts[impl.FlowBroken] == 0 || takes[impl.FlowEnd] == 0 || puts[impl.FlowEnd]+takes[impl.FlowBroken] != 0 {
		t.Errorf("puts told the codes %v, takes %v", puts, takes)
	}
}

func TestRandomPipesAreLikeTheModel(t *testing.T) {
	r, valid := rand.New(rand.NewSource(9)), map[bool]int{}
	for range 100000 {
		p := randomPipe(r)
		valid[pipeIsValid(p)]++
		wantPipeLikeModel(t, pipeText(p), p)
		wantPutLikeModel(t, p, pick(r, flowTexts(pick(r, sizesToPut()[:15]))))
		wantTakeLikeModel(t, p, pick(r, numbersToTake()))
	}
	if valid[true] < 20000 || valid[false] < 20000 {
		t.Errorf("%d pipes were valid and %d not", valid[true], valid[false])
	}
}
