package tests

import (
	"fmt"
	"math"
	"slices"
	"testing"

	"loop.example/quarterdeck/impl"
)

func TestSignalConstants(t *testing.T) {
	sigs := []int{impl.SigMax, impl.SigKill, impl.SigStop, impl.SigGo, impl.SigChild, impl.SigPipe}
	does := []int{impl.DoesEnd, impl.DoesNot, impl.DoesStop, impl.DoesGo, impl.DoesCall}
	if fmt.Sprint(sigs, does) != "[8 1 2 3 4 5] [0 1 2 3 4]" {
		t.Errorf("the signals are %v, and they do %v", sigs, does)
	}
}

// What each signal usually does, told where it is here: one that does nothing was sent while it was blocked, or is just here.
func TestWhatSignalsUsuallyDo(t *testing.T) {
	for n, want := range []int{impl.DoesEnd, impl.DoesStop, impl.DoesGo, impl.DoesNot, impl.DoesEnd, impl.DoesStop, impl.DoesNot, impl.DoesEnd} {
		n++
		got, took, does, ok := impl.SigsNext(sigsOf(justOne(n, "1"), noneOf, noneOf))
		wantTook(t, fmt.Sprintf("SigsNext of the signal %d", n), got, took, does, ok, impl.SigsNew(), n, want, true)
		sent := mustSend(t, mustBlock(t, impl.SigsNew(), allOf), n)
		got, took, does, ok = impl.SigsNext(mustBlock(t, sent, noneOf))
		wantTook(t, fmt.Sprintf("SigsNext of the signal %d, sent while it was blocked", n), got, took, does, ok, impl.SigsNew(), n, want, true)
		sent = mustSend(t, impl.SigsNew(), n)
		if sent.Here[n-1] != (want != impl.DoesNot) {
			t.Errorf("the signal %d, sent, is here: %v", n, sent.Here[n-1])
		}
	}
}

func TestSigsOkCases(t *testing.T) {
	for _, x := range []struct {
		name string
		sigs impl.Sigs
		want bool
	}{
		{"new ones", sigsOf(noneOf, noneOf, noneOf), true},
		{"all here", sigsOf(allOf, noneOf, noneOf), true},
		{"SigKill and SigStop here", sigsOf("11000000", noneOf, noneOf), true},
		{"SigStop and SigGo here", sigsOf("01100100", noneOf, noneOf), true},
		{"all blocked that may be", sigsOf(noneOf, allBut, noneOf), true},
		{"all ignored that may be", sigsOf(noneOf, noneOf, "00111111"), true},
		{"all caught that may be", sigsOf(noneOf, noneOf, "00444444"), true},
		{"ignored, here and not blocked", sigsOf(allBut, noneOf, "00111111"), true},
		{"doing nothing, here and not blocked", sigsOf("00010010", noneOf, noneOf), true},
		{"here, blocked, ignored and caught", sigsOf(allOf, allBut, "00141414"), true},
		{"nothing", impl.Sigs{}, false},
		{"empty lists", sigsOf("", "", ""), false},
		{"none here, a list too short", sigsOf("0000000", noneOf, noneOf), false},
		{"a list of those here too long", sigsOf("000000000", noneOf, noneOf), false},
		{"no list of those here", sigsOf("", noneOf, noneOf), false},
		{"none blocked, a list too short", sigsOf(noneOf, "0000000", noneOf), false},
		{"a list of those blocked too long", sigsOf(noneOf, "000000000", noneOf), false},
		{"no list of those blocked", sigsOf(noneOf, "", noneOf), false},
		{"a list of what is done too short", sigsOf(noneOf, noneOf, "0000000"), false},
		{"a list of what is done too long", sigsOf(noneOf, noneOf, "000000000"), false},
		{"no list of what is done", sigsOf(noneOf, noneOf, ""), false},
		{"all lists too short", sigsOf("0000000", "0000000", "0000000"), false},
		{"all lists too long", sigsOf("000000000", "000000000", "000000000"), false},
		{"SigKill blocked", sigsOf(noneOf, "10000000", noneOf), false},
		{"SigStop blocked", sigsOf(noneOf, "01000000", noneOf), false},
		{"all blocked", sigsOf(noneOf, allOf, noneOf), false},
		{"SigKill ignored", sigsOf(noneOf, noneOf, "10000000"), false},
		{"SigKill caught", sigsOf(noneOf, noneOf, "40000000"), false},
		{"SigStop ignored", sigsOf(noneOf, noneOf, "01000000"), false},
		{"SigStop caught", sigsOf(noneOf, noneOf, "04000000"), false},
		{"SigStop told to stop", sigsOf(noneOf, noneOf, "02000000"), false},
		{"signal 6 told to stop", sigsOf(noneOf, noneOf, "00000200"), false},
		{"SigGo told to let go on", sigsOf(noneOf, noneOf, "00300000"), false},
		{"doing 5", sigsOf(noneOf, noneOf, "00000005"), false},
		{"doing 9", sigsOf(noneOf, noneOf, "00009000"), false},
		{"doing -1", impl.Sigs{Here: make([]bool, 8), Block: make([]bool, 8), Does: []int{0, 0, 0, 0, 0, 0, 0, -1}}, false},
		{"doing the greatest number", impl.Sigs{Here: make([]bool, 8), Block: make([]bool, 8), Does: []int{0, 0, math.MaxInt, 0, 0, 0, 0, 0}}, false},
		{"SigKill doing the least number", impl.Sigs{Here: make([]bool, 8), Block: make([]bool, 8), Does: []int{math.MinInt, 0, 0, 0, 0, 0, 0, 0}}, false},
	} {
		if impl.SigsOk(x.sigs) != x.want {
			t.Errorf("%s: SigsOk is %v", x.name, impl.SigsOk(x.sigs))
		}
	}
}

// For each signal, and each of 0 to 4, whether SigsSet can be: + that it can.
func TestSigsSetOfEachToEach(t *testing.T) {
	for n, may := range []string{"-----", "-----", "++--+", "++--+", "++--+", "++--+", "++--+", "++--+"} {
		n++
		for does := range 5 {
			for _, block := range []string{noneOf, allBut} {
				for _, here := range []string{noneOf, allOf} {
					for _, was := range []string{"0", "1", "4"} {
						s, want := sigsOf(here, block, "00441010"), impl.Sigs{}
						if n > 2 {
							s.Does[n-1] = int(was[0] - '0')
						}
						can := may[does] == '+'
						if can {
							want = cloneSigs(s)
							want.Does[n-1] = does
						}
						what := fmt.Sprintf("SigsSet of %d to %d in %s", n, does, sigsText(s))
						got, ok := impl.SigsSet(s, n, does)
						wantSigsAnd(t, what, got, ok, want, can)
						if can {
							wantSigs(t, what+" and back", mustSetSig(t, got, n, s.Does[n-1]), s)
						}
					}
				}
			}
		}
	}
}

func TestSigsBlockCases(t *testing.T) {
	for _, x := range []struct{ name, here, was, does, list, want string }{
		{"none, of none", noneOf, noneOf, noneOf, noneOf, noneOf},
		{"all, of none", noneOf, noneOf, noneOf, allOf, allBut},
		{"none, of all", allOf, allBut, "00141414", noneOf, noneOf},
		{"all, of all", allOf, allBut, "00444444", allOf, allBut},
		{"one, of none", noneOf, noneOf, noneOf, "00000001", "00000001"},
		{"one, of all", allOf, allBut, noneOf, "00010000", "00010000"},
		{"one, of another one", "00001000", "00001000", "00001000", "00100000", "00100000"},
		{"the same one", "00001000", "00001000", "00001000", "00001000", "00001000"},
		{"SigKill", noneOf, noneOf, noneOf, "10000000", noneOf},
		{"SigStop", noneOf, noneOf, noneOf, "01000000", noneOf},
		{"SigKill and SigStop, which are here", "11000000", noneOf, noneOf, "11000000", noneOf},
		{"SigKill and another one", allOf, "00000001", noneOf, "10100000", "00100000"},
		{"SigStop alone, of all", allOf, allBut, noneOf, "01000000", noneOf},
		{"some that are here", "00110000", noneOf, "00400000", "00011000", "00011000"},
		{"some that are ignored and here", "00110000", noneOf, "00110000", "00110000", "00110000"},
	} {
		s := sigsOf(x.here, x.was, x.does)
		got, ok := impl.SigsBlock(s, flagsOf(x.list))
		wantSigsAnd(t, "SigsBlock of "+x.name, got, ok, sigsOf(x.here, x.want, x.does), true)
	}
}

func TestSigsSendCases(t *testing.T) {
	for _, x := range []struct {
		name, here, block, does string
		n                       int
		want                    string
	}{
		{"SigKill", noneOf, noneOf, noneOf, 1, "10000000"},
		{"SigStop", noneOf, noneOf, noneOf, 2, "01000000"},
		{"SigGo", noneOf, noneOf, noneOf, 3, "00100000"},
		{"SigChild, which does nothing", noneOf, noneOf, noneOf, 4, noneOf},
		{"SigPipe", noneOf, noneOf, noneOf, 5, "00001000"},
		{"signal 6", noneOf, noneOf, noneOf, 6, "00000100"},
		{"signal 7, which does nothing", noneOf, noneOf, noneOf, 7, noneOf},
		{"signal 8", noneOf, noneOf, noneOf, 8, "00000001"},
		{"SigKill, while all others are blocked and ignored", noneOf, allBut, "00111111", 1, "10000000"},
		{"SigStop, while all others are blocked and ignored", noneOf, allBut, "00111111", 2, "01000000"},
		{"one that is here", "00001000", noneOf, noneOf, 5, "00001000"},
		{"one while all are here", allOf, noneOf, noneOf, 5, allOf},
		{"one that is blocked", noneOf, "00000001", noneOf, 8, "00000001"},
		{"one that is blocked and here", "00000001", "00000001", noneOf, 8, "00000001"},
		{"one that is blocked and caught", noneOf, "00000001", "00000004", 8, "00000001"},
		{"one that is caught", noneOf, noneOf, "00000004", 8, "00000001"},
		{"one that usually does nothing, caught", noneOf, noneOf, "00040000", 4, "00010000"},
		{"another one that usually does nothing, caught", noneOf, noneOf, "00000040", 7, "00000010"},
		{"one that is ignored", noneOf, noneOf, "00000001", 8, noneOf},
		{"one that usually does nothing, ignored", noneOf, noneOf, "00000010", 7, noneOf},
		{"one that would do nothing and is blocked", noneOf, "00010000", noneOf, 4, "00010000"},
		{"another one that would do nothing and is blocked", noneOf, "00000010", noneOf, 7, "00000010"},
		{"one that is ignored and blocked", noneOf, "00000001", "00000001", 8, "00000001"},
		{"one that is ignored while others are blocked", noneOf, "00111110", "00000001", 8, noneOf},
		{"one that was ignored and is here", "00000001", noneOf, "00000001", 8, "00000001"},
		{"one that would do nothing and is here", "00010000", noneOf, noneOf, 4, "00010000"},
		{"one that is ignored, blocked and here", "00000001", "00000001", "00000001", 8, "00000001"},
		{"one while all are ignored and here", allOf, noneOf, "00111111", 8, allOf},
		{"one while others are ignored", noneOf, noneOf, "00111110", 8, "00000001"},
	} {
		s := sigsOf(x.here, x.block, x.does)
		got, ok := impl.SigsSend(s, x.n)
		wantSigsAnd(t, "SigsSend of "+x.name, got, ok, sigsOf(x.want, x.block, x.does), true)
	}
}

// SigStop, signal 6 and SigGo take each other away when they are sent, though they are blocked, ignored or caught.
func TestSigsSendToStopAndToGoOn(t *testing.T) {
	for _, x := range []struct {
		name, here, block, does string
		send                    []int
		want                    string
	}{
		{"SigStop, SigGo", noneOf, noneOf, noneOf, []int{2, 3}, "00100000"},
		{"SigGo, SigStop", noneOf, noneOf, noneOf, []int{3, 2}, "01000000"},
		{"signal 6, SigGo", noneOf, noneOf, noneOf, []int{6, 3}, "00100000"},
		{"SigGo, signal 6", noneOf, noneOf, noneOf, []int{3, 6}, "00000100"},
		{"SigStop, signal 6", noneOf, noneOf, noneOf, []int{2, 6}, "01000100"},
		{"signal 6, SigStop", noneOf, noneOf, noneOf, []int{6, 2}, "01000100"},
		{"SigStop, signal 6, SigGo", noneOf, noneOf, noneOf, []int{2, 6, 3}, "00100000"},
		{"SigStop, SigGo, signal 6", noneOf, noneOf, noneOf, []int{2, 3, 6}, "00000100"},
		{"SigGo, SigStop, signal 6", noneOf, noneOf, noneOf, []int{3, 2, 6}, "01000100"},
		{"signal 6, SigGo, SigStop", noneOf, noneOf, noneOf, []int{6, 3, 2}, "01000000"},
		{"SigGo while all three are here", "01100100", noneOf, noneOf, []int{3}, "00100000"},
		{"SigStop while all three are here", "01100100", noneOf, noneOf, []int{2}, "01000100"},
		{"signal 6 while all three are here", "01100100", noneOf, noneOf, []int{6}, "01000100"},
		{"SigGo while all are here", allOf, noneOf, noneOf, []int{3}, "10111011"},
		{"SigStop while all are here", allOf, noneOf, noneOf, []int{2}, "11011111"},
		{"SigKill, SigChild, SigPipe, 7 and 8 while all are here", allOf, noneOf, noneOf, []int{1, 4, 5, 7, 8}, allOf},
		{"SigGo that is blocked", "01000100", "00100000", noneOf, []int{3}, "00100000"},
		{"SigGo that is ignored", "01000100", noneOf, "00100000", []int{3}, noneOf},
		{"SigGo that is ignored and blocked", "01000100", "00100000", "00100000", []int{3}, "00100000"},
		{"SigGo that is ignored and here", "01100100", noneOf, "00100000", []int{3}, "00100000"},
		{"SigGo that is caught", "01000100", noneOf, "00400000", []int{3}, "00100000"},
		{"SigGo, signal 6 being blocked and here", "00000100", "00000100", noneOf, []int{3}, "00100000"},
		{"SigGo, signal 6 being ignored and here", "00000100", noneOf, "00000100", []int{3}, "00100000"},
		{"SigGo, signal 6 being blocked, ignored and here", "01000100", "00000100", "00000100", []int{3}, "00100000"},
		{"SigStop, SigGo being blocked and here", "00100000", "00100000", noneOf, []int{2}, "01000000"},
		{"SigStop, SigGo being ignored and here", "00100000", noneOf, "00100000", []int{2}, "01000000"},
		{"SigStop, SigGo being blocked, ignored and here", "00100000", "00100000", "00100000", []int{2}, "01000000"},
		{"SigStop, SigGo being caught and here", "00100000", noneOf, "00400000", []int{2}, "01000000"},
		{"signal 6 that is blocked", "00100000", "00000100", noneOf, []int{6}, "00000100"},
		{"signal 6 that is ignored", "00100000", noneOf, "00000100", []int{6}, noneOf},
		{"signal 6 that is ignored and here", "00100100", noneOf, "00000100", []int{6}, "00000100"},
		{"signal 6 that is ignored and blocked", "00100000", "00000100", "00000100", []int{6}, "00000100"},
		{"signal 6 that is caught", "00100000", noneOf, "00000400", []int{6}, "00000100"},
		{"signal 6, SigGo being blocked and here", "00100000", "00100000", noneOf, []int{6}, "00000100"},
		{"signal 6, SigGo being blocked, ignored and here", "00100000", "00100000", "00100000", []int{6}, "00000100"},
		{"both blocked, signal 6, SigGo", noneOf, "00100100", noneOf, []int{6, 3}, "00100000"},
		{"both blocked, SigGo, signal 6", noneOf, "00100100", noneOf, []int{3, 6}, "00000100"},
		{"both ignored, signal 6, SigGo", noneOf, noneOf, "00100100", []int{6, 3}, noneOf},
		{"both ignored, SigStop, SigGo", noneOf, noneOf, "00100100", []int{2, 3}, noneOf},
	} {
		got := mustSend(t, sigsOf(x.here, x.block, x.does), x.send...)
		wantSigs(t, "SigsSend of "+x.name, got, sigsOf(x.want, x.block, x.does))
	}
}

func TestSigsNextCases(t *testing.T) {
	for _, x := range []struct {
		name, here, block, does string
		n, act                  int
		want                    string
	}{
		{"none", noneOf, noneOf, noneOf, 0, 1, noneOf},
		{"none, all blocked", noneOf, allBut, "00444444", 0, 1, noneOf},
		{"one", "00000001", noneOf, noneOf, 8, 0, noneOf},
		{"SigKill", "10000000", noneOf, noneOf, 1, 0, noneOf},
		{"SigStop", "01000000", allBut, "00444444", 2, 2, noneOf},
		{"SigGo", "00100000", noneOf, noneOf, 3, 3, noneOf},
		{"signal 6", "00000100", noneOf, noneOf, 6, 2, noneOf},
		{"several", "00001101", noneOf, noneOf, 5, 0, "00000101"},
		{"SigKill among others", allOf, noneOf, noneOf, 1, 0, "01111111"},
		{"SigKill among others that are caught", allOf, noneOf, "00444444", 1, 0, "01111111"},
		{"SigKill, all others blocked", allOf, allBut, "00111111", 1, 0, "01111111"},
		{"SigKill and SigStop", "11000000", noneOf, noneOf, 1, 0, "01000000"},
		{"SigStop and SigGo", "01100000", noneOf, noneOf, 2, 2, "00100000"},
		{"one that is blocked", "00001000", "00001000", noneOf, 0, 1, "00001000"},
		{"one that is blocked and caught", "00001000", "00001000", "00004000", 0, 1, "00001000"},
		{"all but SigKill and SigStop, blocked", allBut, allBut, noneOf, 0, 1, allBut},
		{"one that is blocked, ahead of others", "00111000", "00100000", noneOf, 4, 1, "00101000"},
		{"one that is blocked, between others", "00111000", "00010000", "00400000", 3, 4, "00011000"},
		{"all but the last one blocked", allBut, "00111110", noneOf, 8, 0, "00111110"},
		{"others blocked that are not here", "00000100", "00111011", noneOf, 6, 2, noneOf},
		{"one that is caught", "00001000", noneOf, "00004000", 5, 4, noneOf},
		{"SigGo, caught", "00100000", noneOf, "00400000", 3, 4, noneOf},
		{"signal 6, caught", "00000100", noneOf, "00000400", 6, 4, noneOf},
		{"SigChild, caught", "00010000", noneOf, "00040000", 4, 4, noneOf},
		{"SigChild, which does nothing", "00010000", noneOf, noneOf, 4, 1, noneOf},
		{"signal 7, which does nothing, and 8", "00000011", noneOf, noneOf, 7, 1, "00000001"},
		{"one that is ignored", "00000001", noneOf, "00000001", 8, 1, noneOf},
		{"SigGo, ignored", "00100000", noneOf, "00100000", 3, 1, noneOf},
		{"one that is ignored, ahead of one that is not", "00000101", noneOf, "00000100", 6, 1, "00000001"},
	} {
		s := sigsOf(x.here, x.block, x.does)
		got, n, act, ok := impl.SigsNext(s)
		wantTook(t, "SigsNext of "+x.name, got, n, act, ok, sigsOf(x.want, x.block, x.does), x.n, x.act, x.n > 0)
	}
}

// SigsFork and SigsRun of signals that are here, blocked, ignored and caught, each with each.
func TestSigsForkAndSigsRunCases(t *testing.T) {
	for _, x := range []struct{ name, here, block, does, run string }{
		{"new ones", noneOf, noneOf, noneOf, noneOf},
		{"all here", allOf, noneOf, noneOf, noneOf},
		{"all blocked", noneOf, allBut, noneOf, noneOf},
		{"all ignored", noneOf, noneOf, "00111111", "00111111"},
		{"all caught", noneOf, noneOf, "00444444", noneOf},
		{"all here, blocked and ignored", allOf, allBut, "00111111", "00111111"},
		{"all here, blocked and caught", allOf, allBut, "00444444", noneOf},
		{"one here and caught", "00001000", noneOf, "00004000", noneOf},
		{"one here that usually does nothing, caught", "00010000", noneOf, "00040000", noneOf},
		{"some of each", "01011001", "00101010", "00141414", "00101010"},
		{"SigGo caught and signal 6 ignored", "00100100", "00100000", "00400100", "00000100"},
	} {
		s := sigsOf(x.here, x.block, x.does)
		wantSigs(t, "SigsFork of "+x.name, impl.SigsFork(s), sigsOf(noneOf, x.block, x.does))
		wantSigs(t, "SigsRun of "+x.name, impl.SigsRun(s), sigsOf(x.here, x.block, x.run))
		wantSigs(t, "SigsFork of SigsRun of "+x.name, impl.SigsFork(impl.SigsRun(s)), sigsOf(noneOf, x.block, x.run))
		wantSigs(t, "SigsRun of SigsFork of "+x.name, impl.SigsRun(impl.SigsFork(s)), sigsOf(noneOf, x.block, x.run))
	}
}

// Signals that are blocked are kept, in the order of their numbers, and do what is said when they are taken.
func TestBlockedSignalsAreKept(t *testing.T) {
	blocked := mustBlock(t, impl.SigsNew(), allOf)
	sent := mustSend(t, blocked, 8, 7, 4, 6, 5)
	wantSigs(t, "SigsSend of blocked ones", sent, sigsOf("00011111", allBut, noneOf))
	for _, x := range []struct {
		name string
		sigs impl.Sigs
		want string
	}{
		{"all blocked", sent, ""},
		{"none blocked", mustBlock(t, sent, noneOf), "4:1 5:0 6:2 7:1 8:0"},
		{"two blocked", mustBlock(t, sent, "00001001"), "4:1 6:2 7:1"},
		{"SigKill and SigStop sent, all blocked", mustSend(t, sent, 2, 1), "1:0 2:2"},
		{"SigKill sent, none blocked", mustSend(t, mustBlock(t, sent, noneOf), 1), "1:0 4:1 5:0 6:2 7:1 8:0"},
		{"SigGo sent, all blocked", mustBlock(t, mustSend(t, sent, 3), noneOf), "3:3 4:1 5:0 7:1 8:0"},
		{"one caught meanwhile", mustBlock(t, mustSetSig(t, sent, 4, 4), noneOf), "4:4 5:0 6:2 7:1 8:0"},
		{"one ignored meanwhile", mustBlock(t, mustSetSig(t, sent, 8, 1), noneOf), "4:1 5:0 6:2 7:1 8:1"},
		{"one ignored meanwhile, and sent again", mustSend(t, mustSetSig(t, mustBlock(t, sent, "00001110"), 8, 1), 8), "4:1 8:1"},
		{"SigsRun of one caught", mustBlock(t, impl.SigsRun(mustSetSig(t, sent, 6, 4)), noneOf), "4:1 5:0 6:2 7:1 8:0"},
		{"SigsFork", mustBlock(t, impl.SigsFork(sent), noneOf), ""},
		{"sent to SigsFork, which blocks", mustSend(t, impl.SigsFork(sent), 7, 5), ""},
		{"sent to SigsRun, which blocks", mustSend(t, impl.SigsRun(sent), 5, 2), "2:2"},
	} {
		if _, told := takeAll(t, x.sigs); told != x.want {
			t.Errorf("%s: %q were taken, want %q", x.name, told, x.want)
		}
	}
}

// One that is blocked, whatever it does, is here when it is sent, and is taken as soon as just this one is not blocked any more.
func TestEachBlockedSignalIsKept(t *testing.T) {
	for n := 3; n <= 8; n++ {
		for _, does := range []int{0, 1, 4} {
			for _, block := range []string{justOne(n, "1"), allBut} {
				what := fmt.Sprintf("the signal %d, which does %d, blocked %s", n, does, block)
				s := mustSetSig(t, mustBlock(t, impl.SigsNew(), block), n, does)
				sent := mustSend(t, s, n, n)
				want := sigWith(s, n, true)
				wantSigs(t, what+": sent", sent, want)
				got, took, act, ok := impl.SigsNext(sent)
				wantTook(t, what+": SigsNext", got, took, act, ok, want, 0, 1, false)
				list := flagsOf(allOf)
				list[n-1] = false
				open, ok := impl.SigsBlock(sent, list)
				want = impl.Sigs{Here: want.Here, Block: slices.Concat([]bool{false, false}, list[2:]), Does: want.Does}
				wantSigsAnd(t, what+": not any more", open, ok, want, true)
				need := does
				if does == 0 {
					need = []int{0, 2, 3, 1, 0, 2, 1, 0}[n-1]
				}
				got, took, act, ok = impl.SigsNext(open)
				wantTook(t, what+": SigsNext then", got, took, act, ok, sigWith(open, n, false), n, need, true)
			}
		}
	}
}
