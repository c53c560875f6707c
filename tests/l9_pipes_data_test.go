package tests

import (
	"fmt"
	"math"
	"math/rand"
	"strings"
	"testing"

	"loop.example/quarterdeck/impl"
)

// namedPipe is a pipe with a name for what a test reports.
type namedPipe struct {
	name string
	pipe impl.Pipe
}

// pipeOf is a pipe of a text, with so many readers and writers.
func pipeOf(text string, readers, writers int) impl.Pipe {
	return impl.Pipe{Text: text, Readers: readers, Writers: writers}
}

// flowText has so many bytes, zero bytes and some above 127 among them, each unlike its neighbours; from tells with which one it begins.
func flowText(from, many int) string {
	some := "a\x00\xffz\x80\x7fb \xc3\n0"
	bytes := []byte{}
	for k := range many {
		bytes = append(bytes, some[(from+k)%len(some)])
	}
	return string(bytes)
}

// flowTexts are texts of so many bytes: unlike ones, bytes that are all the same, and runes of more than one byte, cut anywhere.
func flowTexts(many int) []string {
	if many == 0 {
		return []string{""}
	}
	return []string{
		flowText(0, many), flowText(5, many), strings.Repeat("x", many), strings.Repeat("\x00", many), strings.Repeat("\xff", many),
		strings.Repeat("é", many)[:many], strings.Repeat("日", many)[1 : many+1], "ABCDEFGHIJKLMNOPQRSTUVWXYZ"[:min(many, 26)] + strings.Repeat("-", max(0, many-26)),
	}
}

// sidesToTry are numbers of readers, and of writers, around the least, in the middle, and around the greatest.
func sidesToTry() []int {
	return []int{0, 1, 2, 50, 97, 98, 99}
}

// noSides are numbers that neither readers nor writers may have, among them those that may be if they were cut to fewer bits.
func noSides() []int {
	return []int{math.MinInt, math.MinInt + 1, math.MinInt + 99, math.MinInt32, -256, -100, -99, -2, -1, 100, 101, 128, 255, 256, 257, 1000, 1 << 16, 1 << 32, 1<<32 + 1, math.MaxInt - 1, math.MaxInt}
}

// validPipes has each number of bytes with readers, and none without.
func validPipes() []namedPipe {
	list := []namedPipe{}
	add := func(p impl.Pipe) {
		list = append(list, namedPipe{pipeText(p), p})
	}
	for _, writers := range sidesToTry() {
		add(pipeOf("", 0, writers))
		for _, readers := range sidesToTry()[1:] {
			for many := range 9 {
				for _, text := range flowTexts(many) {
					add(pipeOf(text, readers, writers))
				}
			}
		}
	}
	return list
}

// fewPipes has one of each sort, for tests that try much with each one.
func fewPipes() []namedPipe {
	list := []namedPipe{}
	for _, writers := range []int{0, 1, 99} {
		list = append(list, namedPipe{fmt.Sprintf("no readers, %d writers", writers), pipeOf("", 0, writers)})
		for _, readers := range []int{1, 2, 99} {
			for many := range 9 {
				p := pipeOf(flowText(many, many), readers, writers)
				list = append(list, namedPipe{pipeText(p), p})
			}
		}
	}
	return list
}

// invalidPipes has pipes each of which is not valid for just one cause.
func invalidPipes() []namedPipe {
	list := []namedPipe{}
	add := func(name string, p impl.Pipe) {
		list = append(list, namedPipe{name + ": " + pipeText(p), p})
	}
	for _, many := range []int{9, 10, 15, 16, 17, 255, 256, 257, 264, 65536, 65540} {
		for _, text := range []string{flowText(0, many), strings.Repeat("\x00", many)} {
			for _, side := range []int{0, 1, 2, 99} {
				add("too many bytes", pipeOf(text, 1, side))
				add("too many bytes", pipeOf(text, 99, side))
			}
		}
	}
	add("too many bytes, though few runes", pipeOf("ééééé", 1, 1))
	for many := 1; many <= 8; many++ {
		for _, text := range []string{flowText(0, many), strings.Repeat("\x00", many)} {
			for _, writers := range sidesToTry() {
				add("bytes without readers", pipeOf(text, 0, writers))
			}
		}
	}
	for _, n := range noSides() {
		for _, side := range []int{0, 1, 99} {
			add("no number of readers", pipeOf("", n, side))
			add("no number of writers", pipeOf("", side, n))
		}
		for _, many := range []int{1, 4, 5, 8} {
			add("no number of readers", pipeOf(flowText(1, many), n, 1))
			add("no number of writers", pipeOf(flowText(1, many), 1, n))
		}
	}
	return list
}

func allPipes() []namedPipe {
	return append(validPipes(), invalidPipes()...)
}

// randomPipe is a pipe, often one that is not valid, for a test that holds it against the model.
func randomPipe(r *rand.Rand) impl.Pipe {
	side := func() int {
		switch r.Intn(8) {
		case 0, 1:
			return 0
		case 2:
			return pick(r, noSides())
		case 3:
			return pick(r, sidesToTry())
		}
		return 1 + r.Intn(3)
	}
	return pipeOf(pick(r, flowTexts(pick(r, []int{0, 0, 1, 3, 4, 5, 7, 8, 9}))), side(), side())
}

// sizesToPut are sizes of texts around each limit, and such as would be small if they were cut to fewer bits.
func sizesToPut() []int {
	return []int{0, 1, 2, 3, 4, 5, 6, 7, 8, 9, 10, 11, 12, 15, 16, 17, 40, 255, 256, 257, 260, 264, 65536, 65537}
}

// textsToPut are texts of these sizes.
func textsToPut() []string {
	list := []string{}
	for _, size := range sizesToPut() {
		list = append(list, flowText(4, size), strings.Repeat("\x00", size))
	}
	return list
}

// numbersToTake are numbers of bytes, of which the first ones are negative.
func numbersToTake() []int {
	return []int{math.MinInt, math.MinInt + 1, math.MinInt + 8, math.MinInt32, -256, -9, -8, -1, 0, 1, 2, 3, 4, 5, 6, 7, 8, 9, 10, 99, 255, 256, 1 << 32, 1<<32 + 1, math.MaxInt - 8, math.MaxInt - 1, math.MaxInt}
}

func pipeText(p impl.Pipe) string {
	if len(p.Text) > 20 {
		return fmt.Sprintf("%d bytes, %d readers, %d writers", len(p.Text), p.Readers, p.Writers)
	}
	return fmt.Sprintf("%q, %d readers, %d writers", p.Text, p.Readers, p.Writers)
}

func wantPipe(t *testing.T, what string, got, want impl.Pipe) {
	t.Helper()
	if got != want {
		t.Fatalf("%s: got %s, want %s", what, pipeText(got), pipeText(want))
	}
}

// wantPut checks what PipePut returned.
func wantPut(t *testing.T, what string, got impl.Pipe, n, code int, want impl.Pipe, needN, need int) {
	t.Helper()
	if n != needN || code != need {
		t.Fatalf("%s: told %d bytes and the code %d, want %d and %d", what, n, code, needN, need)
	}
	wantPipe(t, what, got, want)
}

// wantTaken checks what PipeTake returned.
func wantTaken(t *testing.T, what string, got impl.Pipe, text string, code int, want impl.Pipe, needText string, need int) {
	t.Helper()
	if text != needText || code != need {
		t.Fatalf("%s: told %q and the code %d, want %q and %d", what, text, code, needText, need)
	}
	wantPipe(t, what, got, want)
}

// wantSide checks what PipeJoin or PipeLeave returned.
func wantSide(t *testing.T, what string, got impl.Pipe, ok bool, want impl.Pipe, need bool) {
	t.Helper()
	if ok != need {
		t.Fatalf("%s: told %v, want %v", what, ok, need)
	}
	wantPipe(t, what, got, want)
}

// wantReady checks what PipeReady returned.
func wantReady(t *testing.T, what string, p impl.Pipe, needTake, needPut bool) {
	t.Helper()
	if take, put := impl.PipeReady(p); take != needTake || put != needPut {
		t.Fatalf("%s: PipeReady told %v, %v, want %v, %v", what, take, put, needTake, needPut)
	}
}
