package tests

import (
	"fmt"
	"slices"
	"testing"

	"loop.example/quarterdeck/impl"
)

// memCall is a call of a function of chapter 3, told by a text, with the memory that it returns, if any.
type memCall struct {
	name string
	do   func(m impl.Mem) impl.Mem
}

// memCalls calls each function that has memory as an argument, with arguments of which some are valid and some not.
func memCalls(whos, addrs []int, pages []impl.Area) []memCall {
	list := []memCall{
		{"MemOk", func(m impl.Mem) impl.Mem { impl.MemOk(m); return impl.Mem{} }},
		{"MemMake", func(m impl.Mem) impl.Mem { n, _, _ := impl.MemMake(m); return n }},
	}
	for _, who := range whos {
		list = append(list,
			memCall{fmt.Sprintf("MemFork(%d)", who), func(m impl.Mem) impl.Mem { n, _, _ := impl.MemFork(m, who); return n }},
			memCall{fmt.Sprintf("MemDrop(%d)", who), func(m impl.Mem) impl.Mem { n, _ := impl.MemDrop(m, who); return n }})
		for _, addr := range addrs {
			list = append(list,
				memCall{fmt.Sprintf("MemGet(%d, %d)", who, addr), func(m impl.Mem) impl.Mem { n, _, _ := impl.MemGet(m, who, addr); return n }},
				memCall{fmt.Sprintf("MemSet(%d, %d)", who, addr), func(m impl.Mem) impl.Mem { n, _ := impl.MemSet(m, who, addr, 200); return n }},
				memCall{fmt.Sprintf("MemSet(%d, %d) to no byte", who, addr), func(m impl.Mem) impl.Mem { n, _ := impl.MemSet(m, who, addr, 256); return n }},
				memCall{fmt.Sprintf("MemPeek(%d, %d)", who, addr), func(m impl.Mem) impl.Mem { impl.MemPeek(m, who, addr); return impl.Mem{} }})
		}
		for _, a := range pages {
			list = append(list,
				memCall{fmt.Sprintf("MemMap(%d, %v)", who, a), func(m impl.Mem) impl.Mem { n, _ := impl.MemMap(m, who, a); return n }},
				memCall{fmt.Sprintf("MemCut(%d, %v)", who, a), func(m impl.Mem) impl.Mem { n, _ := impl.MemCut(m, who, a.From, a.Many); return n }})
		}
	}
	return list
}

// fewCalls are enough to see what a call does to its argument.
func fewCalls() []memCall {
	return memCalls([]int{-1, 0, 1, 2, 5}, []int{-1, 0, 9, 17, 31, 48, 63, 64}, []impl.Area{writable(0, 16), shared(4, 1), writable(12, 1), area(15, 2)})
}

func allMems() []namedMem {
	return append(validMems(), invalidMems()...)
}

// roomyMem is the same memory with marks in the capacity behind each list, which a call must leave alone, too.
func roomyMem(m impl.Mem) impl.Mem {
	n := impl.Mem{Ram: roomyPages(m.Ram), Swap: roomyPages(m.Swap), Hand: m.Hand}
	for _, s := range m.Spaces {
		slots := append(slices.Clone(s.Slots), slotOf("f71ou"), slotOf("s72"))
		s.Areas, s.Slots = roomyAreas(s.Areas), slots[:len(s.Slots)]
		n.Spaces = append(n.Spaces, s)
	}
	spaces := append(n.Spaces, liveSpace(sixAreas(), nil), liveSpace(nil, nil))
	n.Spaces = spaces[:len(m.Spaces)]
	return n
}

// wholeMem has all that lists have up to their capacity.
func wholeMem(m impl.Mem) impl.Mem {
	n := impl.Mem{Ram: wholePages(m.Ram), Swap: wholePages(m.Swap), Hand: m.Hand}
	for _, s := range m.Spaces[:cap(m.Spaces)] {
		s.Areas, s.Slots = s.Areas[:cap(s.Areas)], s.Slots[:cap(s.Slots)]
		n.Spaces = append(n.Spaces, s)
	}
	return n
}

// scribbleMem overwrites all that memory has, up to the capacity of its lists.
func scribbleMem(m impl.Mem) {
	scribblePages(m.Ram)
	scribblePages(m.Swap)
	spaces := m.Spaces[:cap(m.Spaces)]
	for who, s := range spaces {
		scribbleAreas(s.Areas)
		slots := s.Slots[:cap(s.Slots)]
		for page := range slots {
			slots[page] = impl.Slot{Kind: -7, At: -7}
		}
		spaces[who] = impl.Space{Live: !s.Live, Areas: []impl.Area{area(-7, -7)}}
	}
}

func TestMemCallsDoNotPanic(t *testing.T) {
	try := func(x namedMem, c memCall) {
		defer func() {
			if r := recover(); r != nil {
				t.Errorf("%s of %s panicked: %v", c.name, x.name, r)
			}
		}()
		c.do(x.mem)
	}
	calls := append(fewCalls(), memCalls(whosToTry(), noAddresses(), invalidRanges())...)
	for k, x := range allMems() {
		if k >= 40 && k%5 != 0 {
			continue
		}
		for _, c := range calls {
			try(x, c)
		}
	}
}

// All of these have something that is not valid: a space that is not there or not live, no address, no byte.
func TestMemCallsOfWhatIsNotThere(t *testing.T) {
	for _, x := range writtenMems() {
		for _, who := range whosToTry() {
			live := isLive(x.mem, who)
			for _, addr := range append(noAddresses(), 0, 21, 63) {
				what := fmt.Sprintf("%s: address %d of space %d", x.name, addr, who)
				if !live || addr < 0 || addr > 63 {
					wantBadAddress(t, what, x.mem, who, addr)
				}
				for _, b := range noBytes() {
					m, code := impl.MemSet(x.mem, who, addr, b)
					wantCode(t, fmt.Sprintf("%s: MemSet to %d", what, b), m, code, impl.Mem{}, impl.MemBad)
				}
			}
			if !live {
				wantNoLive(t, fmt.Sprintf("%s: space %d", x.name, who), x.mem, who)
			}
		}
	}
}

// wantBadAddress checks that an address of a space can be neither read nor written, with nothing.
func wantBadAddress(t *testing.T, what string, m impl.Mem, who, addr int) {
	t.Helper()
	n, b, code := impl.MemGet(m, who, addr)
	wantCode(t, what+": MemGet", n, code, impl.Mem{}, impl.MemBad)
	if b != -1 {
		t.Fatalf("%s: MemGet told the byte %d", what, b)
	}
	for _, b := range []int{0, 77, 255} {
		n, code = impl.MemSet(m, who, addr, b)
		wantCode(t, what+": MemSet", n, code, impl.Mem{}, impl.MemBad)
	}
	if b, ok := impl.MemPeek(m, who, addr); b != 0 || ok {
		t.Fatalf("%s: MemPeek told %d, %v", what, b, ok)
	}
}

// wantNoLive checks all calls but those that have an address, of a space that there is not.
func wantNoLive(t *testing.T, what string, m impl.Mem, who int) {
	t.Helper()
	for _, a := range []impl.Area{writable(0, 1), shared(15, 1), area(0, 0), area(15, 2), area(-1, 1)} {
		n, code := impl.MemMap(m, who, a)
		wantCode(t, what+": MemMap", n, code, impl.Mem{}, impl.MemBad)
		n, code = impl.MemCut(m, who, a.From, a.Many)
		wantCode(t, what+": MemCut", n, code, impl.Mem{}, impl.MemBad)
	}
	n, child, ok := impl.MemFork(m, who)
	wantNoSpace(t, what+": MemFork", n, child, ok)
	n, ok = impl.MemDrop(m, who)
	if ok {
		t.Fatalf("%s: MemDrop is true", what)
	}
	wantMem(t, what+": MemDrop", n, impl.Mem{})
}

func TestMemThatIsNotValidFails(t *testing.T) {
	for _, x := range invalidMems() {
		m, who, ok := impl.MemMake(x.mem)
		wantNoSpace(t, x.name+": MemMake", m, who, ok)
		for _, who := range []int{-1, 0, 1, 2, 4, 5} {
			what := fmt.Sprintf("%s: space %d", x.name, who)
			wantNoLive(t, what, x.mem, who)
			for _, addr := range []int{-1, 0, 5, 24, 35, 63, 64} {
				wantBadAddress(t, what, x.mem, who, addr)
				m, code := impl.MemSet(x.mem, who, addr, -1)
				wantCode(t, what+": MemSet of no byte", m, code, impl.Mem{}, impl.MemBad)
			}
		}
	}
}

func TestMemArgumentsAreNotChanged(t *testing.T) {
	for _, x := range allMems() {
		m := roomyMem(x.mem)
		was := cloneMem(wholeMem(m))
		for _, c := range fewCalls() {
			c.do(m)
			wantMem(t, c.name+" of "+x.name+" changed its argument", wholeMem(m), was)
		}
	}
}

func TestMemResultsShareNothingWithArguments(t *testing.T) {
	for _, x := range allMems() {
		for _, c := range fewCalls() {
			m := roomyMem(x.mem)
			was := cloneMem(wholeMem(m))
			scribbleMem(c.do(m))
			wantMem(t, c.name+" of "+x.name+": the argument is in the result", wholeMem(m), was)
			got := c.do(m)
			told := cloneMem(got)
			scribbleMem(m)
			wantMem(t, c.name+" of "+x.name+": the result is in the argument", got, told)
		}
	}
}

func TestMemResultsShareNothingWithEachOther(t *testing.T) {
	for _, x := range allMems() {
		for _, c := range fewCalls() {
			one, two := c.do(x.mem), c.do(x.mem)
			told := cloneMem(two)
			wantMem(t, c.name+" of "+x.name+" again", one, two)
			scribbleMem(one)
			wantMem(t, c.name+" of "+x.name+": a result is in another one", two, told)
		}
	}
	scribbleMem(impl.MemNew())
	wantMem(t, "MemNew behind another one was changed", impl.MemNew(), memOf(0))
}

// No two lists of one result are in the same memory, nor are those of spaces of which one was forked from the other.
func TestMemListsOfAResultAreApart(t *testing.T) {
	for _, x := range append(allMems(), namedMem{"new memory", impl.MemNew()}) {
		for _, c := range append(fewCalls(), memCall{"the memory itself", func(impl.Mem) impl.Mem { return impl.MemNew() }}) {
			m := c.do(x.mem)
			apart := listsApart(m.Ram.Text, m.Swap.Text) && listsApart(m.Ram.Refs, m.Swap.Refs)
			lists, slots := [][]impl.Area{}, [][]impl.Slot{}
			for _, s := range m.Spaces {
				lists, slots = append(lists, s.Areas), append(slots, s.Slots)
			}
			if !apart || !listsApart(lists...) || !listsApart(slots...) {
				t.Fatalf("%s of %s: lists of the result share memory", c.name, x.name)
			}
		}
	}
}

// listsApart reports whether no two lists have an element of their memory in common, up to their capacity.
func listsApart[T any](lists ...[]T) bool {
	seen := map[*T]bool{}
	for _, list := range lists {
		whole := list[:cap(list)]
		for k := range whole {
			if seen[&whole[k]] {
				return false
			}
			seen[&whole[k]] = true
		}
	}
	return true
}
