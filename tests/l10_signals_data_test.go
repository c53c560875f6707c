package tests

import (
	"fmt"
	"math"
	"math/rand"
	"slices"
	"strings"
	"testing"

	"loop.example/quarterdeck/impl"
)

// namedSigs is signals with a name for what a test reports.
type namedSigs struct {
	name string
	sigs impl.Sigs
}

// noneOf tells of each signal that it is not here, not blocked, or as usual; allOf that it is here, or blocked, but for SigKill and SigStop in allBut.
const (
	noneOf = "00000000"
	allOf  = "11111111"
	allBut = "00111111"
)

// flagsOf is a list of what a text tells with a digit for each place.
func flagsOf(digits string) []bool {
	list := []bool{}
	for _, digit := range digits {
		list = append(list, digit == '1')
	}
	return list
}

// sigsOf is signals of three texts, each with a digit for each signal: which ones are here, which ones are blocked, and what they do.
func sigsOf(here, block, does string) impl.Sigs {
	s := impl.Sigs{Here: flagsOf(here), Block: flagsOf(block)}
	for _, digit := range does {
		s.Does = append(s.Does, int(digit-'0'))
	}
	return s
}

// flagsText is what flagsOf reads.
func flagsText(list []bool) string {
	text := ""
	for _, is := range list {
		if is {
			text += "1"
		} else {
			text += "0"
		}
	}
	return text
}

func sigsText(s impl.Sigs) string {
	if len(s.Here)+len(s.Block)+len(s.Does) > 60 {
		return fmt.Sprintf("lists of %d, %d and %d", len(s.Here), len(s.Block), len(s.Does))
	}
	return fmt.Sprintf("here %s, blocked %s, does %v", flagsText(s.Here), flagsText(s.Block), s.Does)
}

// justOne is the text with just the digit of a signal, of the eight.
func justOne(n int, digit string) string {
	return noneOf[:n-1] + digit + noneOf[n:]
}

// hereToTry are texts of signals that are here: none, all, each one, all but one, and some.
func hereToTry() []string {
	list := []string{noneOf, allOf, "01100100", "10000001", "00011010", "00100010"}
	for n := 1; n <= 8; n++ {
		list = append(list, justOne(n, "1"), allOf[:n-1]+"0"+allOf[n:])
	}
	return list
}

// blockToTry are texts of signals that are blocked: none, all that may be, each one, and some.
func blockToTry() []string {
	list := []string{noneOf, allBut, "00100100", "00011000", "00110011"}
	for n := 3; n <= 8; n++ {
		list = append(list, justOne(n, "1"))
	}
	return list
}

// doesToTry are texts of what signals do: all as usual, all ignored, all caught, each one ignored or caught, and some of each.
func doesToTry() []string {
	list := []string{noneOf, "00111111", "00444444", "00014014", "00410140", "00141014"}
	for n := 3; n <= 8; n++ {
		list = append(list, justOne(n, "1"), justOne(n, "4"))
	}
	return list
}

// sigsFrom has signals of each of some texts with each of the others.
func sigsFrom(heres, blocks, acts []string) []namedSigs {
	list := []namedSigs{}
	for _, here := range heres {
		for _, block := range blocks {
			for _, does := range acts {
				s := sigsOf(here, block, does)
				list = append(list, namedSigs{sigsText(s), s})
			}
		}
	}
	return list
}

func validSigs() []namedSigs {
	return sigsFrom(hereToTry(), blockToTry(), doesToTry())
}

// fewSigs has some of each sort, for tests that try much with each one.
func fewSigs() []namedSigs {
	return sigsFrom([]string{noneOf, allOf, "01100100", "00011010", "10100011"}, []string{noneOf, allBut, "00100100", "00011010"}, []string{noneOf, "00111111", "00444444", "00014014", "00410140"})
}

// otherLengths are lengths that no list of SigMax has, among them such as would be SigMax if they were cut to fewer bits.
func otherLengths() []int {
	return []int{0, 1, 2, 3, 4, 5, 6, 7, 9, 10, 15, 16, 17, 64, 255, 256, 264, 65536, 65544}
}

// flagLists are lists of a length: all false, all true, and with just the last one true.
func flagLists(length int) [][]bool {
	no, yes, last := make([]bool, length), make([]bool, length), make([]bool, length)
	for k := range yes {
		yes[k], last[k] = true, k == length-1
	}
	return [][]bool{no, yes, last}
}

// otherFlags are lists of other lengths than SigMax.
func otherFlags() [][]bool {
	list := [][]bool{nil}
	for _, length := range otherLengths() {
		list = append(list, flagLists(length)...)
	}
	return list
}

// noSignals are numbers of no signal, among them those that are one if they are cut to fewer bits.
func noSignals() []int {
	return []int{math.MinInt, math.MinInt + 1, math.MinInt + 3, math.MinInt32, -256, -255, -253, -9, -8, -3, -2, -1, 0, 9, 10, 16, 17, 255, 256, 257, 259, 264, 1 << 16, 1 << 32, 1<<32 + 1, 1<<32 + 3, 1<<32 + 8, math.MaxInt - 1, math.MaxInt}
}

// noActs are numbers that a process may not say that a signal does, among them those that it may if they are cut to fewer bits.
func noActs() []int {
	return []int{math.MinInt, math.MinInt + 1, math.MinInt + 4, math.MinInt32, -256, -255, -252, -5, -4, -3, -2, -1, 2, 3, 5, 6, 7, 8, 9, 10, 16, 255, 256, 257, 260, 1 << 16, 1 << 32, 1<<32 + 1, 1<<32 + 4, math.MaxInt - 3, math.MaxInt - 1, math.MaxInt}
}

// allActs are what a signal may do and what it may not.
func allActs() []int {
	return append(noActs(), 0, 1, 4)
}

// allSignals are the signals and numbers of none.
func allSignals() []int {
	return append(noSignals(), 1, 2, 3, 4, 5, 6, 7, 8)
}

// sigsWithOtherLists are not valid as one list has another length than SigMax, or two, or all.
func sigsWithOtherLists() []namedSigs {
	list := []namedSigs{{"nothing", impl.Sigs{}}, {"empty lists", sigsOf("", "", "")}}
	add := func(name string, s impl.Sigs) {
		list = append(list, namedSigs{name + ": " + sigsText(s), s})
	}
	for _, length := range otherLengths() {
		for _, does := range []int{0, 1, 4} {
			s := sigsOf(allOf, noneOf, noneOf)
			s.Does = slices.Repeat([]int{does}, length)
			copy(s.Does, []int{0, 0})
			add("another length of what is done", s)
		}
	}
	for _, flags := range otherFlags() {
		block := slices.Clone(flags)
		copy(block, []bool{false, false})
		s := sigsOf(allOf, allBut, "00014014")
		s.Here = flags
		add("another length of those here", s)
		s = sigsOf(noneOf, allBut, noneOf)
		s.Block = block
		add("another length of those blocked", s)
		s.Here = flags
		add("another length of both", s)
		s.Does = make([]int, len(flags))
		add("another length of all", s)
	}
	return list
}

// sigsWithOtherActs are not valid as a signal does what it may not.
func sigsWithOtherActs() []namedSigs {
	list := []namedSigs{}
	add := func(name string, s impl.Sigs) {
		list = append(list, namedSigs{name + ": " + sigsText(s), s})
	}
	for _, here := range []string{noneOf, allOf} {
		for _, does := range []string{noneOf, "00144114"} {
			for n := 1; n <= 8; n++ {
				for _, act := range noActs() {
					s := sigsOf(here, "00101000", does)
					s.Does[n-1] = act
					add("does what is not in its range", s)
				}
			}
			for _, block := range []string{"10000000", "01000000", "11000000", "10111111", "01111111", allOf} {
				add("SigKill or SigStop blocked", sigsOf(here, block, does))
			}
			for _, first := range []string{"10", "40", "01", "04", "11", "44", "14", "20", "02"} {
				add("SigKill or SigStop not as usual", sigsOf(here, noneOf, first+does[2:]))
			}
		}
	}
	return list
}

func invalidSigs() []namedSigs {
	return append(sigsWithOtherLists(), sigsWithOtherActs()...)
}

func allSigs() []namedSigs {
	return append(validSigs(), invalidSigs()...)
}

// randomFlags is mostly of SigMax, and often blocks neither SigKill nor SigStop.
func randomFlags(r *rand.Rand) []bool {
	if r.Intn(40) == 0 {
		return pick(r, otherFlags()[:25])
	}
	list := flagsOf(fmt.Sprintf("%08b", r.Intn(256)))
	if r.Intn(8) > 0 {
		list[0], list[1] = false, false
	}
	return list
}

// randomSigs is signals, often such as are not valid, for a test that holds them against the model.
func randomSigs(r *rand.Rand) impl.Sigs {
	s := impl.Sigs{Here: randomFlags(r), Block: randomFlags(r), Does: []int{0, 0}}
	if len(s.Here) == 8 {
		s.Here[0], s.Here[1] = r.Intn(2) == 0, r.Intn(2) == 0
	}
	for len(s.Does) < 8 {
		s.Does = append(s.Does, pick(r, []int{0, 1, 4}))
	}
	if r.Intn(8) == 0 {
		s.Does[r.Intn(8)] = pick(r, allActs())
	}
	return s
}

func cloneSigs(s impl.Sigs) impl.Sigs {
	return impl.Sigs{Here: slices.Clone(s.Here), Block: slices.Clone(s.Block), Does: slices.Clone(s.Does)}
}

func sameSigs(a, b impl.Sigs) bool {
	return slices.Equal(a.Here, b.Here) && slices.Equal(a.Block, b.Block) && slices.Equal(a.Does, b.Does)
}

func wantSigs(t *testing.T, what string, got, want impl.Sigs) {
	t.Helper()
	if !sameSigs(got, want) {
		t.Fatalf("%s: got %s, want %s", what, sigsText(got), sigsText(want))
	}
}

// wantSigsAnd checks what SigsSet, SigsBlock or SigsSend returned.
func wantSigsAnd(t *testing.T, what string, got impl.Sigs, ok bool, want impl.Sigs, need bool) {
	t.Helper()
	if ok != need {
		t.Fatalf("%s: told %v, want %v", what, ok, need)
	}
	wantSigs(t, what, got, want)
}

// wantTook checks what SigsNext returned.
func wantTook(t *testing.T, what string, got impl.Sigs, n, does int, ok bool, want impl.Sigs, needN, needDoes int, need bool) {
	t.Helper()
	if n != needN || does != needDoes || ok != need {
		t.Fatalf("%s: told the signal %d, which does %d, and %v, want %d, %d and %v", what, n, does, ok, needN, needDoes, need)
	}
	wantSigs(t, what, got, want)
}

// mustSend is signals behind sending some, in order.
func mustSend(t *testing.T, s impl.Sigs, list ...int) impl.Sigs {
	t.Helper()
	for _, n := range list {
		next, ok := impl.SigsSend(s, n)
		if !ok {
			t.Fatalf("SigsSend of %d to %s failed", n, sigsText(s))
		}
		s = next
	}
	return s
}

func mustBlock(t *testing.T, s impl.Sigs, block string) impl.Sigs {
	t.Helper()
	next, ok := impl.SigsBlock(s, flagsOf(block))
	if !ok {
		t.Fatalf("SigsBlock of %s in %s failed", block, sigsText(s))
	}
	return next
}

func mustSetSig(t *testing.T, s impl.Sigs, n, does int) impl.Sigs {
	t.Helper()
	next, ok := impl.SigsSet(s, n, does)
	if !ok {
		t.Fatalf("SigsSet of %d to %d in %s failed", n, does, sigsText(s))
	}
	return next
}

// takeAll takes signals till none is left that may be taken, and tells each with what it does, as 3:3 for SigGo, which goes on.
func takeAll(t *testing.T, s impl.Sigs) (impl.Sigs, string) {
	t.Helper()
	told := []string{}
	for range 9 {
		next, n, does, ok := impl.SigsNext(s)
		if !ok {
			wantTook(t, "SigsNext of none", next, n, does, ok, s, 0, 1, false)
			return s, strings.Join(told, " ")
		}
		s, told = next, append(told, fmt.Sprintf("%d:%d", n, does))
	}
	t.Fatalf("SigsNext took %v, and more", told)
	return s, ""
}
