package tests

import (
	"fmt"
	"slices"
	"strings"
	"testing"

	"loop.example/quarterdeck/impl"
)

// sigWith is signals in which one is here or not.
func sigWith(s impl.Sigs, n int, here bool) impl.Sigs {
	s = cloneSigs(s)
	s.Here[n-1] = here
	return s
}

// Promise 90.
func TestSigsNewIsValidAndHasNoneHere(t *testing.T) {
	s := impl.SigsNew()
	wantSigs(t, "SigsNew", s, sigsOf(noneOf, noneOf, noneOf))
	if !impl.SigsOk(s) {
		t.Fatalf("SigsNew is not valid")
	}
	got, n, does, ok := impl.SigsNext(s)
	wantTook(t, "SigsNext of new ones", got, n, does, ok, s, 0, 1, false)
	for n := 1; n <= 8; n++ {
		blocked := sigsOf(noneOf, noneOf, noneOf)
		blocked.Block[n-1] = n > 2
		got, ok := impl.SigsBlock(s, flagsOf(justOne(n, "1")))
		wantSigsAnd(t, fmt.Sprintf("SigsBlock of %d of new ones", n), got, ok, blocked, true)
	}
}

// Promise 91.
func TestSigKillAndSigStopAreNotBlockedWhereSigsOkHolds(t *testing.T) {
	valid := 0
	for _, x := range allSigs() {
		if !impl.SigsOk(x.sigs) {
			continue
		}
		valid++
		for _, n := range []int{impl.SigKill, impl.SigStop} {
			if x.sigs.Block[n-1] || x.sigs.Does[n-1] != impl.DoesEnd {
				t.Fatalf("%s is valid", x.name)
			}
			sent, usual := mustSend(t, x.sigs, n), map[int]int{1: 0, 2: 2}
			got, took, does, ok := impl.SigsNext(sigWith(sent, 1, n == 1))
			wantTook(t, fmt.Sprintf("%s: SigsNext of the signal %d", x.name, n), got, took, does, ok, sigWith(sigWith(sent, 1, false), n, false), n, usual[n], true)
		}
	}
	if valid != len(validSigs()) {
		t.Errorf("%d signals are valid, want %d", valid, len(validSigs()))
	}
}

// Promise 91: neither SigsBlock nor SigsSet changes that.
func TestSigKillAndSigStopStayAsUsual(t *testing.T) {
	for _, x := range fewSigs() {
		for _, n := range []int{impl.SigKill, impl.SigStop} {
			for _, does := range allActs() {
				got, ok := impl.SigsSet(x.sigs, n, does)
				wantSigsAnd(t, fmt.Sprintf("%s: SigsSet of %d to %d", x.name, n, does), got, ok, impl.Sigs{}, false)
			}
		}
		for _, list := range []string{"10000000", "01000000", "11000000", allOf, "10101010", "01010101"} {
			got := mustBlock(t, x.sigs, list)
			want := cloneSigs(x.sigs)
			want.Block = flagsOf("00" + list[2:])
			wantSigs(t, x.name+": SigsBlock of "+list, got, want)
		}
	}
}

// Promise 92.
func TestSigsSetChangesJustWhatOneDoes(t *testing.T) {
	for _, x := range validSigs() {
		for n := 1; n <= 8; n++ {
			for does := 0; does <= 4; does++ {
				what := fmt.Sprintf("%s: SigsSet of %d to %d", x.name, n, does)
				got, ok := impl.SigsSet(x.sigs, n, does)
				if n <= 2 || does == impl.DoesStop || does == impl.DoesGo {
					wantSigsAnd(t, what, got, ok, impl.Sigs{}, false)
					continue
				}
				want := cloneSigs(x.sigs)
				want.Does[n-1] = does
				wantSigsAnd(t, what, got, ok, want, true)
				if !impl.SigsOk(got) {
					t.Fatalf("%s: not valid", what)
				}
				back, ok := impl.SigsSet(got, n, x.sigs.Does[n-1])
				wantSigsAnd(t, what+" and back", back, ok, x.sigs, true)
			}
		}
	}
}

// Promise 93.
func TestSigsBlockBlocksThoseOfTheList(t *testing.T) {
	for _, x := range fewSigs() {
		for k := range 256 {
			list := flagsOf(fmt.Sprintf("%08b", k))
			got, ok := impl.SigsBlock(x.sigs, list)
			what := fmt.Sprintf("%s: SigsBlock of %s", x.name, flagsText(list))
			want := impl.Sigs{Here: x.sigs.Here, Block: append([]bool{false, false}, list[2:]...), Does: x.sigs.Does}
			wantSigsAnd(t, what, got, ok, want, true)
			if !impl.SigsOk(got) {
				t.Fatalf("%s: not valid", what)
			}
			again, ok := impl.SigsBlock(got, list)
			wantSigsAnd(t, what+", again", again, ok, want, true)
			back, ok := impl.SigsBlock(got, x.sigs.Block)
			wantSigsAnd(t, what+", and back", back, ok, x.sigs, true)
		}
	}
}

// takenBy has the signals that are not here any more when one is sent.
func takenBy(n int) []int {
	switch n {
	case 2, 6:
		return []int{3}
	case 3:
		return []int{2, 6}
	}
	return nil
}

// Promise 94.
func TestSigsSendIsHereAndOnce(t *testing.T) {
	for _, x := range validSigs() {
		for n := 1; n <= 8; n++ {
			what := fmt.Sprintf("%s: SigsSend of %d", x.name, n)
			nothing := x.sigs.Does[n-1] == 1 || x.sigs.Does[n-1] == 0 && (n == 4 || n == 7)
			want := sigWith(x.sigs, n, x.sigs.Here[n-1] || x.sigs.Block[n-1] || !nothing)
			for _, other := range takenBy(n) {
				want.Here[other-1] = false
			}
			got, ok := impl.SigsSend(x.sigs, n)
			wantSigsAnd(t, what, got, ok, want, true)
			if !impl.SigsOk(got) || !nothing && !got.Here[n-1] {
				t.Fatalf("%s: %s", what, sigsText(got))
			}
			twice, ok := impl.SigsSend(got, n)
			wantSigsAnd(t, what+" twice", twice, ok, got, true)
		}
	}
}

// Promise 95.
func TestSigsNextTakesTheFirstOne(t *testing.T) {
	for _, x := range validSigs() {
		got, n, does, ok := impl.SigsNext(x.sigs)
		first := 0
		for k := 8; k >= 1; k-- {
			if x.sigs.Here[k-1] && !x.sigs.Block[k-1] {
				first = k
			}
		}
		if first == 0 {
			wantTook(t, x.name+": SigsNext", got, n, does, ok, x.sigs, 0, 1, false)
			continue
		}
		acts := x.sigs.Does[first-1]
		if acts == 0 {
			acts = []int{0, 2, 3, 1, 0, 2, 1, 0}[first-1]
		}
		wantTook(t, x.name+": SigsNext", got, n, does, ok, sigWith(x.sigs, first, false), first, acts, true)
		if !impl.SigsOk(got) {
			t.Fatalf("%s: behind SigsNext it is not valid", x.name)
		}
	}
}

// Promise 96.
func TestSigsForkHasNoneHere(t *testing.T) {
	for _, x := range validSigs() {
		got := impl.SigsFork(x.sigs)
		wantSigs(t, x.name+": SigsFork", got, impl.Sigs{Here: make([]bool, 8), Block: x.sigs.Block, Does: x.sigs.Does})
		wantSigs(t, x.name+": SigsFork of SigsFork", impl.SigsFork(got), got)
		if !impl.SigsOk(got) {
			t.Fatalf("%s: SigsFork is not valid", x.name)
		}
	}
}

// Promise 97.
func TestSigsRunHasNoneCaught(t *testing.T) {
	for _, x := range validSigs() {
		got := impl.SigsRun(x.sigs)
		want := cloneSigs(x.sigs)
		for k, does := range want.Does {
			if does == impl.DoesCall {
				want.Does[k] = impl.DoesEnd
			}
		}
		wantSigs(t, x.name+": SigsRun", got, want)
		if !impl.SigsOk(got) || slices.Contains(got.Does, impl.DoesCall) {
			t.Fatalf("%s: SigsRun is %s", x.name, sigsText(got))
		}
		wantSigs(t, x.name+": SigsRun of SigsRun", impl.SigsRun(got), got)
	}
}

// Promise 98.
func TestSigsNextAgainAndAgainTakesAll(t *testing.T) {
	for _, x := range validSigs() {
		s, took := x.sigs, []int{}
		for range 8 {
			next, n, _, ok := impl.SigsNext(s)
			if !ok {
				break
			}
			s, took = next, append(took, n)
		}
		got, n, does, ok := impl.SigsNext(s)
		want, left := []int{}, cloneSigs(x.sigs)
		for k := range 8 {
			if left.Here[k] && !left.Block[k] {
				left.Here[k] = false
				want = append(want, k+1)
			}
		}
		wantTook(t, x.name+": SigsNext behind all", got, n, does, ok, left, 0, 1, false)
		if !slices.Equal(took, want) {
			t.Fatalf("%s: SigsNext took %v, want %v", x.name, took, want)
		}
	}
}

// Promise 99: of each signal that may be blocked, whatever it does, whatever else is blocked.
func TestABlockedSignalIsTakenWhenItIsNotBlockedAnyMore(t *testing.T) {
	alone := 0
	for _, x := range validSigs() {
		for n := 3; n <= 8; n++ {
			if !x.sigs.Block[n-1] {
				continue
			}
			what, mark := fmt.Sprintf("%s: the signal %d", x.name, n), fmt.Sprintf("%d:", n)
			sent := mustSend(t, x.sigs, n)
			left, told := takeAll(t, sent)
			if !left.Here[n-1] || strings.Contains(told, mark) {
				t.Fatalf("%s, blocked, was taken: %s, and %s is left", what, told, sigsText(left))
			}
			first := slices.Index(sent.Here, true) + 1
			open := mustBlock(t, sent, noneOf)
			_, took, _, ok := impl.SigsNext(open)
			if _, told = takeAll(t, open); !ok || took != first || !strings.Contains(told, mark) {
				t.Fatalf("%s: behind SigsBlock of none %s were taken, want %d first", what, told, first)
			}
			if took == n {
				alone++
			}
		}
	}
	if alone < 1000 {
		t.Errorf("%d blocked signals were taken first", alone)
	}
}

// Promise 100: whatever was here, is blocked, ignored or caught.
func TestSigStopAndSigGoTakeEachOtherAway(t *testing.T) {
	for _, x := range validSigs() {
		for _, stop := range []int{impl.SigStop, 6} {
			stopped := mustSend(t, x.sigs, stop)
			goes := mustSend(t, stopped, impl.SigGo)
			if stopped.Here[impl.SigGo-1] || goes.Here[stop-1] {
				t.Fatalf("%s: behind the signal %d there are %s, behind SigGo %s", x.name, stop, flagsText(stopped.Here), flagsText(goes.Here))
			}
			goes = mustSend(t, x.sigs, impl.SigGo)
			stopped = mustSend(t, goes, stop)
			if goes.Here[1] || goes.Here[5] || stopped.Here[impl.SigGo-1] {
				t.Fatalf("%s: behind SigGo there are %s, behind the signal %d %s", x.name, flagsText(goes.Here), stop, flagsText(stopped.Here))
			}
			if !stopped.Here[stop-1] && stop == impl.SigStop {
				t.Fatalf("%s: behind SigGo and SigStop SigStop is not here", x.name)
			}
		}
	}
}

func TestSigsCallsOfInvalidSigs(t *testing.T) {
	for _, x := range invalidSigs() {
		if impl.SigsOk(x.sigs) {
			t.Fatalf("%s: SigsOk", x.name)
		}
		for n := 0; n <= 9; n++ {
			got, ok := impl.SigsSend(x.sigs, n)
			wantSigsAnd(t, x.name+": SigsSend", got, ok, impl.Sigs{}, false)
			for does := 0; does <= 4; does++ {
				got, ok = impl.SigsSet(x.sigs, n, does)
				wantSigsAnd(t, x.name+": SigsSet", got, ok, impl.Sigs{}, false)
			}
		}
		for _, list := range [][]bool{flagsOf(noneOf), flagsOf(allOf), nil, x.sigs.Here, x.sigs.Block} {
			got, ok := impl.SigsBlock(x.sigs, list)
			wantSigsAnd(t, x.name+": SigsBlock", got, ok, impl.Sigs{}, false)
		}
		got, n, does, ok := impl.SigsNext(x.sigs)
		wantTook(t, x.name+": SigsNext", got, n, does, ok, impl.Sigs{}, 0, 1, false)
		wantSigs(t, x.name+": SigsFork", impl.SigsFork(x.sigs), impl.Sigs{})
		wantSigs(t, x.name+": SigsRun", impl.SigsRun(x.sigs), impl.Sigs{})
	}
}

// Arguments that are not valid, of signals that are.
func TestSigsCallsOfInvalidArguments(t *testing.T) {
	for _, x := range fewSigs() {
		for _, n := range noSignals() {
			got, ok := impl.SigsSend(x.sigs, n)
			wantSigsAnd(t, fmt.Sprintf("%s: SigsSend of %d", x.name, n), got, ok, impl.Sigs{}, false)
			for _, does := range []int{0, 1, 4} {
				got, ok = impl.SigsSet(x.sigs, n, does)
				wantSigsAnd(t, fmt.Sprintf("%s: SigsSet of %d", x.name, n), got, ok, impl.Sigs{}, false)
			}
		}
		for _, does := range noActs() {
			for n := 1; n <= 8; n++ {
				got, ok := impl.SigsSet(x.sigs, n, does)
				wantSigsAnd(t, fmt.Sprintf("%s: SigsSet of %d to %d", x.name, n, does), got, ok, impl.Sigs{}, false)
			}
		}
		for _, list := range otherFlags() {
			got, ok := impl.SigsBlock(x.sigs, list)
			wantSigsAnd(t, fmt.Sprintf("%s: SigsBlock of a list of %d", x.name, len(list)), got, ok, impl.Sigs{}, false)
		}
	}
}
