package tests

import (
	"fmt"
	"maps"
	"math/rand"
	"slices"
	"testing"

	"loop.example/quarterdeck/impl"
)

// modelSig is what a process has of one signal.
type modelSig struct {
	here, block bool
	does        int
}

// usualActs tells what each signal usually does, behind a sign for 0, which is no signal.
const usualActs = "-02310210"

// act is what the model tells that a signal does.
func (m modelSig) act(n int) int {
	if m.does == 0 {
		return int(usualActs[n] - '0')
	}
	return m.does
}

// sigsAreValid tells, without the program, whether signals are valid.
func sigsAreValid(s impl.Sigs) bool {
	if len(s.Here) != 8 || len(s.Block) != 8 || len(s.Does) != 8 {
		return false
	}
	for k := range 2 {
		if s.Block[k] || s.Does[k] != 0 {
			return false
		}
	}
	return !slices.ContainsFunc(s.Does, func(does int) bool { return does != 0 && does != 1 && does != 4 })
}

// sigModelOf has valid signals by their numbers.
func sigModelOf(s impl.Sigs) map[int]modelSig {
	m := map[int]modelSig{}
	for k := range 8 {
		m[k+1] = modelSig{s.Here[k], s.Block[k], s.Does[k]}
	}
	return m
}

// sigsOfModel is sigModelOf back.
func sigsOfModel(m map[int]modelSig) impl.Sigs {
	s := impl.Sigs{}
	for _, n := range slices.Sorted(maps.Keys(m)) {
		s.Here, s.Block, s.Does = append(s.Here, m[n].here), append(s.Block, m[n].block), append(s.Does, m[n].does)
	}
	return s
}

// isFree tells whether one may block a signal, and say what it does.
func isFree(n int) bool {
	return n > 2 && n < 9
}

func modelSet(s impl.Sigs, n, does int) (impl.Sigs, bool) {
	if !sigsAreValid(s) || !isFree(n) || does != 0 && does != 1 && does != 4 {
		return impl.Sigs{}, false
	}
	m := sigModelOf(s)
	m[n] = modelSig{m[n].here, m[n].block, does}
	return sigsOfModel(m), true
}

func modelBlock(s impl.Sigs, list []bool) (impl.Sigs, bool) {
	if !sigsAreValid(s) || len(list) != 8 {
		return impl.Sigs{}, false
	}
	m := sigModelOf(s)
	for n := range m {
		m[n] = modelSig{m[n].here, isFree(n) && list[n-1], m[n].does}
	}
	return sigsOfModel(m), true
}

func modelSend(s impl.Sigs, n int) (impl.Sigs, bool) {
	if !sigsAreValid(s) || n < 1 || n > 8 {
		return impl.Sigs{}, false
	}
	m := sigModelOf(s)
	for other, x := range m {
		stopsIt := other == 3 && (n == 2 || n == 6)
		goesOn := n == 3 && (other == 2 || other == 6)
		here := x.here && !stopsIt && !goesOn || other == n && (x.block || x.act(n) != 1)
		m[other] = modelSig{here, x.block, x.does}
	}
	return sigsOfModel(m), true
}

func modelNext(s impl.Sigs) (impl.Sigs, int, int, bool) {
	if !sigsAreValid(s) {
		return impl.Sigs{}, 0, 1, false
	}
	m := sigModelOf(s)
	for n := 1; n <= 8; n++ {
		if x := m[n]; x.here && !x.block {
			m[n] = modelSig{false, false, x.does}
			return sigsOfModel(m), n, x.act(n), true
		}
	}
	return s, 0, 1, false
}

func modelFork(s impl.Sigs) impl.Sigs {
	if !sigsAreValid(s) {
		return impl.Sigs{}
	}
	return impl.Sigs{Here: make([]bool, 8), Block: s.Block, Does: s.Does}
}

func modelRun(s impl.Sigs) impl.Sigs {
	if !sigsAreValid(s) {
		return impl.Sigs{}
	}
	m := sigModelOf(s)
	for n, x := range m {
		if x.does == 4 {
			m[n] = modelSig{x.here, x.block, 0}
		}
	}
	return sigsOfModel(m)
}

// wantSigsLikeModel checks all that is asked of signals alone.
func wantSigsLikeModel(t *testing.T, s impl.Sigs) {
	t.Helper()
	if impl.SigsOk(s) != sigsAreValid(s) {
		t.Fatalf("%s: SigsOk is %v", sigsText(s), impl.SigsOk(s))
	}
	want, needN, needDoes, need := modelNext(s)
	got, n, does, ok := impl.SigsNext(s)
	wantTook(t, sigsText(s)+": SigsNext", got, n, does, ok, want, needN, needDoes, need)
	wantSigs(t, sigsText(s)+": SigsFork", impl.SigsFork(s), modelFork(s))
	wantSigs(t, sigsText(s)+": SigsRun", impl.SigsRun(s), modelRun(s))
}

func wantSetLikeModel(t *testing.T, s impl.Sigs, n, does int) {
	t.Helper()
	want, need := modelSet(s, n, does)
	got, ok := impl.SigsSet(s, n, does)
	wantSigsAnd(t, fmt.Sprintf("%s: SigsSet of %d to %d", sigsText(s), n, does), got, ok, want, need)
}

func wantBlockLikeModel(t *testing.T, s impl.Sigs, list []bool) {
	t.Helper()
	want, need := modelBlock(s, list)
	got, ok := impl.SigsBlock(s, list)
	wantSigsAnd(t, fmt.Sprintf("%s: SigsBlock of %d", sigsText(s), len(list)), got, ok, want, need)
}

func wantSendLikeModel(t *testing.T, s impl.Sigs, n int) {
	t.Helper()
	want, need := modelSend(s, n)
	got, ok := impl.SigsSend(s, n)
	wantSigsAnd(t, fmt.Sprintf("%s: SigsSend of %d", sigsText(s), n), got, ok, want, need)
}

// Each set of signals here with each set of those blocked, also such as may not be.
func TestAllHereAndBlockedAreLikeTheModel(t *testing.T) {
	for here := range 256 {
		for block := range 256 {
			for _, does := range []string{noneOf, "00114140"} {
				s := sigsOf(fmt.Sprintf("%08b", here), fmt.Sprintf("%08b", block), does)
				wantSigsLikeModel(t, s)
				for n := 1; n <= 8 && block < 64; n++ {
					wantSendLikeModel(t, s, n)
				}
			}
		}
	}
}

// All that signals may do, three ways each, and one more that may not be, whatever is here and blocked.
func TestAllThatSignalsDoIsLikeTheModel(t *testing.T) {
	for k := range 4 * 4 * 4 * 4 * 4 * 4 {
		does := "00"
		for rest := k; len(does) < 8; rest /= 4 {
			does += string("0142"[rest%4])
		}
		for _, x := range sigsFrom([]string{noneOf, allOf, "01010101"}, []string{noneOf, allBut, "00011010"}, []string{does}) {
			wantSigsLikeModel(t, x.sigs)
			for n := 1; n <= 8; n++ {
				wantSendLikeModel(t, x.sigs, n)
			}
		}
	}
}

// All signals and all that they may do, and numbers that are none of these, of all signals.
func TestSetsBlocksAndSendsAreLikeTheModel(t *testing.T) {
	for _, x := range allSigs() {
		wantSigsLikeModel(t, x.sigs)
		for _, n := range allSignals() {
			wantSendLikeModel(t, x.sigs, n)
		}
		for n := 0; n <= 9; n++ {
			for does := -1; does <= 5; does++ {
				wantSetLikeModel(t, x.sigs, n, does)
			}
		}
		for _, block := range blockToTry() {
			wantBlockLikeModel(t, x.sigs, flagsOf(block))
		}
	}
	for _, x := range fewSigs() {
		for _, n := range allSignals() {
			for _, does := range allActs() {
				wantSetLikeModel(t, x.sigs, n, does)
			}
		}
		for block := range 256 {
			wantBlockLikeModel(t, x.sigs, flagsOf(fmt.Sprintf("%08b", block)))
		}
		for _, list := range otherFlags() {
			wantBlockLikeModel(t, x.sigs, list)
		}
	}
}

func TestRandomSigsAreLikeTheModel(t *testing.T) {
	r, valid := rand.New(rand.NewSource(10)), map[bool]int{}
	for range 50000 {
		s := randomSigs(r)
		valid[sigsAreValid(s)]++
		wantSigsLikeModel(t, s)
		wantSendLikeModel(t, s, 1+r.Intn(8))
		wantSendLikeModel(t, s, pick(r, allSignals()))
		wantSetLikeModel(t, s, 1+r.Intn(8), pick(r, []int{0, 1, 4}))
		wantSetLikeModel(t, s, pick(r, allSignals()), pick(r, allActs()))
		wantBlockLikeModel(t, s, randomFlags(r))
	}
	if valid[true] < 10000 || valid[false] < 10000 {
		t.Errorf("%d signals were valid and %d not", valid[true], valid[false])
	}
}

// sigsStep does one thing with signals, and tells what the model tells of it; what fails leaves the signals.
func sigsStep(r *rand.Rand, s impl.Sigs) (got, want impl.Sigs, told, need string) {
	ok, may := true, true
	n, does, took, acts := r.Intn(10), 0, 0, 0
	switch r.Intn(10) {
	case 0:
		list := randomFlags(r)
		got, ok = impl.SigsBlock(s, list)
		want, may = modelBlock(s, list)
	case 1, 2:
		does = pick(r, []int{0, 1, 4, 4, 2})
		got, ok = impl.SigsSet(s, n, does)
		want, may = modelSet(s, n, does)
	case 3, 4, 5:
		got, n, does, ok = impl.SigsNext(s)
		want, took, acts, may = modelNext(s)
		return got, want, fmt.Sprint(n, does, ok), fmt.Sprint(took, acts, may)
	case 6:
		if r.Intn(4) > 0 {
			return s, s, "", ""
		}
		got, want = impl.SigsRun(s), modelRun(s)
		if r.Intn(2) == 0 {
			got, want = impl.SigsFork(s), modelFork(s)
		}
	default:
		got, ok = impl.SigsSend(s, n)
		want, may = modelSend(s, n)
	}
	return got, want, fmt.Sprint(ok), fmt.Sprint(may)
}

// Behind any calls from new signals, step by step.
func TestSigsAlongWalksAreLikeTheModel(t *testing.T) {
	met := map[string]int{}
	for seed := range 100 {
		r, s := rand.New(rand.NewSource(int64(seed))), impl.SigsNew()
		for range 300 {
			got, want, told, need := sigsStep(r, s)
			if told != need {
				t.Fatalf("seed %d: of %s it told %s, want %s", seed, sigsText(s), told, need)
			}
			wantSigs(t, fmt.Sprintf("seed %d: behind %s", seed, sigsText(s)), got, want)
			met[told]++
			if sigsAreValid(got) {
				s = got
			}
			if !impl.SigsOk(s) {
				t.Fatalf("seed %d: %s is not valid", seed, sigsText(s))
			}
		}
	}
	for _, told := range []string{"true", "false", "0 1 false", "1 0 true", "2 2 true", "3 3 true", "4 1 true", "4 4 true", "5 1 true", "6 2 true", "7 4 true", "8 0 true"} {
		if met[told] == 0 {
			t.Errorf("no step told %s", told)
		}
	}
}
