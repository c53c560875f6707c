package tests

import (
	"fmt"
	"slices"
	"testing"

	"loop.example/quarterdeck/impl"
)

// sigsAnswer is what a call of chapter 10 returns, as far as it returns it.
type sigsAnswer struct {
	sigs    impl.Sigs
	n, does int
	ok      bool
}

// sigsCall is a call of a function of chapter 10, told by a text.
type sigsCall struct {
	name string
	do   func(s impl.Sigs) sigsAnswer
}

// sigsCalls calls each function with some numbers and lists.
func sigsCalls(numbers, acts []int, lists [][]bool) []sigsCall {
	list := []sigsCall{
		{"SigsOk", func(s impl.Sigs) sigsAnswer { return sigsAnswer{ok: impl.SigsOk(s)} }},
		{"SigsNext", func(s impl.Sigs) sigsAnswer {
			got, n, does, ok := impl.SigsNext(s)
			return sigsAnswer{got, n, does, ok}
		}},
		{"SigsFork", func(s impl.Sigs) sigsAnswer { return sigsAnswer{sigs: impl.SigsFork(s)} }},
		{"SigsRun", func(s impl.Sigs) sigsAnswer { return sigsAnswer{sigs: impl.SigsRun(s)} }},
		{"SigsBlock of those blocked", func(s impl.Sigs) sigsAnswer {
			got, ok := impl.SigsBlock(s, s.Block)
			return sigsAnswer{sigs: got, ok: ok}
		}},
		{"SigsBlock of those here", func(s impl.Sigs) sigsAnswer {
			got, ok := impl.SigsBlock(s, s.Here)
			return sigsAnswer{sigs: got, ok: ok}
		}},
	}
	for _, flags := range lists {
		list = append(list, sigsCall{fmt.Sprintf("SigsBlock of a list of %d", len(flags)), func(s impl.Sigs) sigsAnswer {
			got, ok := impl.SigsBlock(s, flags)
			return sigsAnswer{sigs: got, ok: ok}
		}})
	}
	for _, n := range numbers {
		list = append(list, sigsCall{fmt.Sprintf("SigsSend of %d", n), func(s impl.Sigs) sigsAnswer {
			got, ok := impl.SigsSend(s, n)
			return sigsAnswer{sigs: got, ok: ok}
		}})
		for _, does := range acts {
			list = append(list, sigsCall{fmt.Sprintf("SigsSet of %d to %d", n, does), func(s impl.Sigs) sigsAnswer {
				got, ok := impl.SigsSet(s, n, does)
				return sigsAnswer{sigs: got, ok: ok}
			}})
		}
	}
	return list
}

// fewSigsCalls are some of each sort.
func fewSigsCalls() []sigsCall {
	return sigsCalls([]int{-1, 0, 1, 2, 3, 4, 6, 8, 9}, []int{-1, 0, 1, 2, 4, 5}, [][]bool{nil, flagsOf(noneOf), flagsOf(allOf), flagsOf("1010101"), flagsOf("010101010")})
}

// sigsForMemory are signals with which memory is looked at: some that are valid, some that are not.
func sigsForMemory() []namedSigs {
	list := fewSigs()
	for k, x := range invalidSigs() {
		if k%11 == 0 {
			list = append(list, x)
		}
	}
	return list
}

// roomySigs is the same signals with marks in the capacity behind each list, which a call must leave alone, too.
func roomySigs(s impl.Sigs) impl.Sigs {
	here, block := append(slices.Clone(s.Here), true, false, true), append(slices.Clone(s.Block), false, true, true)
	does := append(slices.Clone(s.Does), 71, 72, 73)
	return impl.Sigs{Here: here[:len(s.Here)], Block: block[:len(s.Block)], Does: does[:len(s.Does)]}
}

// wholeSigs has all that lists have up to their capacity.
func wholeSigs(s impl.Sigs) impl.Sigs {
	return impl.Sigs{Here: s.Here[:cap(s.Here)], Block: s.Block[:cap(s.Block)], Does: s.Does[:cap(s.Does)]}
}

// turnFlags overwrites a list, up to its capacity.
func turnFlags(list []bool) {
	list = list[:cap(list)]
	for k := range list {
		list[k] = !list[k]
	}
}

// scribbleSigs overwrites all that signals have, up to the capacity of their lists.
func scribbleSigs(s impl.Sigs) {
	turnFlags(s.Here)
	turnFlags(s.Block)
	does := s.Does[:cap(s.Does)]
	for k := range does {
		does[k] = -7
	}
}

func wantSigsAnswer(t *testing.T, what string, got, want sigsAnswer) {
	t.Helper()
	wantTook(t, what, got.sigs, got.n, got.does, got.ok, want.sigs, want.n, want.does, want.ok)
}

func TestSigsCallsDoNotPanic(t *testing.T) {
	try := func(name string, do func()) {
		defer func() {
			if r := recover(); r != nil {
				t.Errorf("%s panicked: %v", name, r)
			}
		}()
		do()
	}
	few := fewSigsCalls()
	for _, x := range allSigs() {
		for _, c := range few {
			try(c.name+" of "+x.name, func() { c.do(x.sigs) })
		}
	}
	calls := sigsCalls(allSignals(), allActs(), otherFlags())
	for _, x := range sigsForMemory() {
		for _, c := range calls {
			try(c.name+" of "+x.name, func() { c.do(x.sigs) })
		}
	}
	// Lists of each length up to one more than there are signals, each with each.
	for here := range 10 {
		for block := range 10 {
			for does := range 10 {
				s := impl.Sigs{Here: make([]bool, here), Block: make([]bool, block), Does: make([]int, does)}
				for _, c := range few {
					try(c.name+" of "+sigsText(s), func() { c.do(s) })
				}
			}
		}
	}
}

func TestSigsArgumentsAreNotChanged(t *testing.T) {
	calls := fewSigsCalls()
	for _, x := range sigsForMemory() {
		s := roomySigs(x.sigs)
		was := cloneSigs(wholeSigs(s))
		for _, c := range calls {
			c.do(s)
			wantSigs(t, c.name+" of "+x.name+" changed its argument", wholeSigs(s), was)
		}
	}
}

func TestSigsBlockLeavesItsListAlone(t *testing.T) {
	for _, x := range fewSigs() {
		for _, digits := range []string{noneOf, allOf, "11000000", "10101010", "", "1111111", "111111111"} {
			list := append(flagsOf(digits), true, false, true)[:len(digits)]
			was := slices.Clone(list[:cap(list)])
			got, _ := impl.SigsBlock(x.sigs, list)
			told := cloneSigs(got)
			if !slices.Equal(list[:cap(list)], was) || !listsApart(got.Here, got.Block, list, x.sigs.Here, x.sigs.Block) {
				t.Fatalf("%s: SigsBlock of %q changed its list, or keeps it", x.name, digits)
			}
			turnFlags(list)
			wantSigs(t, x.name+": SigsBlock of "+digits+" keeps its list", got, told)
			turnFlags(list)
			scribbleSigs(got)
			if !slices.Equal(list[:cap(list)], was) {
				t.Fatalf("%s: the list of SigsBlock of %q is in the result", x.name, digits)
			}
		}
	}
}

func TestSigsResultsShareNothingWithArguments(t *testing.T) {
	calls := fewSigsCalls()
	for _, x := range sigsForMemory() {
		for _, c := range calls {
			s := roomySigs(x.sigs)
			was := cloneSigs(wholeSigs(s))
			scribbleSigs(c.do(s).sigs)
			wantSigs(t, c.name+" of "+x.name+": the argument is in the result", wholeSigs(s), was)
			got := c.do(s).sigs
			if !listsApart(got.Here, got.Block, s.Here, s.Block) || !listsApart(got.Does, s.Does) {
				t.Fatalf("%s of %s: lists of the result and of the argument share memory", c.name, x.name)
			}
			told := cloneSigs(got)
			scribbleSigs(s)
			wantSigs(t, c.name+" of "+x.name+": the result is in the argument", got, told)
		}
	}
}

// What is told is the same each time, and no result is in another one.
func TestSigsResultsShareNothingWithEachOther(t *testing.T) {
	calls := fewSigsCalls()
	for _, x := range sigsForMemory() {
		for _, c := range calls {
			one, two := c.do(x.sigs), c.do(x.sigs)
			told := cloneSigs(two.sigs)
			wantSigsAnswer(t, c.name+" of "+x.name+" again", one, two)
			if !listsApart(one.sigs.Here, one.sigs.Block, two.sigs.Here, two.sigs.Block) || !listsApart(one.sigs.Does, two.sigs.Does) {
				t.Fatalf("%s of %s: lists of results share memory", c.name, x.name)
			}
			scribbleSigs(one.sigs)
			wantSigs(t, c.name+" of "+x.name+": a result is in another one", two.sigs, told)
		}
	}
}

func TestSigsNewSharesNothing(t *testing.T) {
	one := impl.SigsNew()
	if !listsApart(one.Here, one.Block) {
		t.Fatalf("lists of SigsNew share memory")
	}
	scribbleSigs(one)
	two := impl.SigsNew()
	wantSigs(t, "SigsNew behind another one was changed", two, sigsOf(noneOf, noneOf, noneOf))
	scribbleSigs(impl.SigsFork(two))
	scribbleSigs(impl.SigsRun(two))
	wantSigs(t, "SigsNew behind what came from it was changed", impl.SigsNew(), two)
}

// Lists of an argument that are one list are as if they were two.
func TestSigsOfOneList(t *testing.T) {
	list := flagsOf("00101100")
	both := impl.Sigs{Here: list, Block: list, Does: []int{0, 0, 0, 4, 1, 0, 0, 4}}
	apart := cloneSigs(both)
	for _, c := range fewSigsCalls() {
		got, want := c.do(both), c.do(apart)
		wantSigsAnswer(t, c.name+" of one list", got, want)
		if !listsApart(got.sigs.Here, got.sigs.Block) {
			t.Fatalf("%s of one list: lists of the result share memory", c.name)
		}
		wantSigs(t, c.name+" of one list changed it", both, apart)
	}
}

// An empty list and none are the same.
func TestSigsOfNoLists(t *testing.T) {
	none, empty := impl.Sigs{}, impl.Sigs{Here: []bool{}, Block: []bool{}, Does: []int{}}
	for _, c := range fewSigsCalls() {
		wantSigsAnswer(t, c.name+" of empty lists", c.do(empty), c.do(none))
		wantSigs(t, c.name+" of no lists", c.do(none).sigs, impl.Sigs{})
	}
}
