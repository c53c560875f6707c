package tests

import (
	"fmt"
	"math/rand"
	"slices"
	"testing"

	"loop.example/quarterdeck/impl"
)

// someAddresses has an address of each page, the first one and the last one of all.
func someAddresses() []int {
	list := []int{0, 63}
	for page := range 16 {
		list = append(list, 4*page+(page+1)%4)
	}
	return list
}

// Promise 18.
func TestMemNewIsValidAndEmpty(t *testing.T) {
	m := impl.MemNew()
	wantMem(t, "MemNew", m, memOf(0))
	wantMeaning(t, "MemNew", m, memModel{})
	wantPeeks(t, "MemNew", m, memModel{})
	if impl.PagesRoom(m.Ram) != 12 || impl.PagesRoom(m.Swap) != 12 || m.Hand != 0 {
		t.Errorf("MemNew: %s", memText(m))
	}
}

// Promise 19, as far as it does not speak of BytesOfMem.
func TestMemOkOfValidAndInvalidMemory(t *testing.T) {
	for _, x := range validMems() {
		wantValid(t, x.name, x.mem)
	}
	for _, x := range invalidMems() {
		if impl.MemOk(x.mem) || memIsValid(x.mem) {
			t.Errorf("%s: MemOk %v, as the tests read it %v: %s", x.name, impl.MemOk(x.mem), memIsValid(x.mem), memText(x.mem))
		}
	}
	wantValid(t, "what invalid memory is made of", baseMem())
}

// Promise 19: valid memory in which one thing is another one, chosen by a fixed seed, is valid just if the tests read it so.
func TestMemOkOfChangedMemory(t *testing.T) {
	r, valid := rand.New(rand.NewSource(3)), 0
	for _, x := range validMems() {
		for range 150 {
			m := cloneMem(x.mem)
			changeMem(r, &m)
			if r.Intn(2) == 0 {
				recount(&m)
			}
			want := memIsValid(m)
			if impl.MemOk(m) != want {
				t.Fatalf("%s, changed: MemOk %v, want %v: %s", x.name, !want, want, memText(m))
			}
			if want {
				valid++
			}
		}
	}
	if valid < 500 {
		t.Errorf("only %d were valid", valid)
	}
}

// changeMem makes one thing of memory another one, which may be valid.
func changeMem(r *rand.Rand, m *impl.Mem) {
	s := &m.Spaces[r.Intn(5)]
	p := []*impl.Pages{&m.Ram, &m.Swap}[r.Intn(2)]
	switch r.Intn(9) {
	case 0:
		p.Refs[r.Intn(12)] += r.Intn(3) - 1
	case 1:
		p.Text[r.Intn(12)] = []string{"", "abc", "abcd", "abcde"}[r.Intn(4)]
	case 2:
		m.Hand = r.Intn(16) - 2
	case 3:
		s.Live = !s.Live
	case 4:
		if len(s.Areas) > 0 {
			a := &s.Areas[r.Intn(len(s.Areas))]
			*a = []impl.Area{shared(a.From, a.Many), area(a.From, a.Many), writable(a.From, a.Many-1), readShared(a.From-1, a.Many), {}}[r.Intn(5)]
		}
	default:
		if len(s.Slots) == 0 {
			break
		}
		k := &s.Slots[r.Intn(16)]
		switch r.Intn(4) {
		case 0:
			*k = slotOf([]string{"", "f0", "f0o", "s0", "s0ou", "f11u", "s11o"}[r.Intn(7)])
		case 1:
			k.Own = !k.Own
		case 2:
			k.Used = !k.Used
		case 3:
			if told := toldSlots(*m); len(told) > 0 {
				*k = told[r.Intn(len(told))].slot
			}
		}
	}
}

// Promise 20.
func TestMemGetKeepsTheMeaning(t *testing.T) {
	for _, x := range validMems() {
		want := meaningOf(x.mem)
		for who := range 5 {
			for _, addr := range someAddresses() {
				what := fmt.Sprintf("%s: MemGet of %d of space %d", x.name, addr, who)
				m, b, code := impl.MemGet(x.mem, who, addr)
				need := getCode(x.mem, who, addr)
				if code != need {
					t.Fatalf("%s: code %d, want %d", what, code, need)
				}
				if code != impl.MemFine {
					wantNothingGot(t, what, x.mem, m, b, code)
					continue
				}
				wantMeaning(t, what, m, want)
				if peek, _ := want.peek(who, addr); b != peek {
					t.Fatalf("%s: it told %d, want %d", what, b, peek)
				}
				again, c, code := impl.MemGet(m, who, addr)
				if c != b || code != impl.MemFine {
					t.Fatalf("%s once more: %d, %d, want %d", what, c, code, b)
				}
				wantMem(t, what+" once more", again, m)
			}
		}
	}
}

// wantNothingGot checks a MemGet that failed: nothing if something was not valid, and else the memory as it was.
func wantNothingGot(t *testing.T, what string, was, m impl.Mem, b, code int) {
	t.Helper()
	if b != -1 {
		t.Fatalf("%s: code %d with the byte %d", what, code, b)
	}
	if code == impl.MemBad {
		was = impl.Mem{}
	}
	wantMem(t, what, m, was)
}

// Promise 21.
func TestMemSetChangesJustThatByte(t *testing.T) {
	for _, x := range validMems() {
		for who := range 5 {
			for k, addr := range someAddresses() {
				b := []int{0, 255, 77, 128}[k%4]
				what := fmt.Sprintf("%s: MemSet of %d of space %d to %d", x.name, addr, who, b)
				m, code := impl.MemSet(x.mem, who, addr, b)
				need := setCode(x.mem, who, addr)
				if code != need {
					t.Fatalf("%s: code %d, want %d", what, code, need)
				}
				switch code {
				case impl.MemBad:
					wantMem(t, what, m, impl.Mem{})
				case impl.MemFine:
					wantMeaning(t, what, m, meaningOf(x.mem).set(who, addr, b))
					if c, ok := impl.MemPeek(m, who, addr); c != b || !ok {
						t.Fatalf("%s: MemPeek told %d, %v", what, c, ok)
					}
					if s := m.Spaces[who].Slots[addr/4]; s.Kind != 1 || !s.Own || !s.Used {
						t.Fatalf("%s: its slot is %v", what, s)
					}
				default:
					wantMem(t, what, m, x.mem)
				}
			}
		}
	}
}

// Promise 22.
func TestMemPeekIsTheMeaning(t *testing.T) {
	for _, x := range validMems() {
		want := meaningOf(x.mem)
		wantPeeks(t, x.name, x.mem, want)
		for _, who := range whosToTry() {
			for _, addr := range append(noAddresses(), 0, 17, 63) {
				b, ok := impl.MemPeek(x.mem, who, addr)
				if c, is := want.peek(who, addr); b != c || ok != is {
					t.Errorf("%s: MemPeek of %d of space %d told %d, %v", x.name, addr, who, b, ok)
				}
			}
		}
	}
}

// Promise 23.
func TestMemMakeMakesTheFirstSpace(t *testing.T) {
	for _, x := range validMems() {
		at := firstDead(x.mem)
		m, who, ok := impl.MemMake(x.mem)
		if at == -1 {
			wantNoSpace(t, x.name+": MemMake", m, who, ok)
			continue
		}
		if !ok || who != at {
			t.Fatalf("%s: MemMake told %d, %v, want %d", x.name, who, ok, at)
		}
		wantMem(t, x.name+": MemMake", m, edited(x.mem, space(at, liveSpace(nil, nil))))
		want := meaningOf(x.mem)
		want[at].live = true
		wantMeaning(t, x.name+": MemMake", m, want)
	}
}

// wantNoSpace checks a call that fails with nothing and -1.
func wantNoSpace(t *testing.T, what string, m impl.Mem, who int, ok bool) {
	t.Helper()
	if ok || who != -1 || !sameMem(m, impl.Mem{}) {
		t.Fatalf("%s: %d, %v, %s, want nothing, -1 and false", what, who, ok, memText(m))
	}
}

// Promise 24.
func TestMemMapTakesNoPlace(t *testing.T) {
	for _, x := range validMems() {
		for who := range 5 {
			for _, a := range append(validRanges(), invalidRanges()...) {
				a.Write, a.Shared = a.From%2 == 0, a.Many%2 == 0
				what := fmt.Sprintf("%s: MemMap of %v to space %d", x.name, a, who)
				m, code := impl.MemMap(x.mem, who, a)
				if !isLive(x.mem, who) {
					wantCode(t, what, m, code, impl.Mem{}, impl.MemBad)
					continue
				}
				list, ok := impl.AreasAdd(x.mem.Spaces[who].Areas, a)
				if !ok {
					wantCode(t, what, m, code, x.mem, impl.MemFull)
					continue
				}
				wantCode(t, what, m, code, edited(x.mem, areas(who, list...)), impl.MemFine)
				wantValid(t, what, m)
				wantZero(t, what, m, who, a)
			}
		}
	}
}

// wantZero checks the first and the last byte of an area.
func wantZero(t *testing.T, what string, m impl.Mem, who int, a impl.Area) {
	t.Helper()
	for _, addr := range []int{4 * a.From, 4*(a.From+a.Many) - 1} {
		if b, ok := impl.MemPeek(m, who, addr); b != 0 || !ok {
			t.Fatalf("%s: MemPeek of %d told %d, %v", what, addr, b, ok)
		}
	}
}

// wantCode checks a call that returns memory and a code.
func wantCode(t *testing.T, what string, m impl.Mem, code int, want impl.Mem, need int) {
	t.Helper()
	if code != need {
		t.Fatalf("%s: code %d, want %d", what, code, need)
	}
	wantMem(t, what, m, want)
}

// Promise 25.
func TestMemCutLeavesAllOthers(t *testing.T) {
	for _, x := range validMems() {
		for who := range 5 {
			for _, a := range append(validRanges(), invalidRanges()...) {
				what := fmt.Sprintf("%s: MemCut of %v of space %d", x.name, a, who)
				m, code := impl.MemCut(x.mem, who, a.From, a.Many)
				if !isLive(x.mem, who) {
					wantCode(t, what, m, code, impl.Mem{}, impl.MemBad)
					continue
				}
				list, ok := impl.AreasCut(x.mem.Spaces[who].Areas, a.From, a.Many)
				if !ok {
					wantCode(t, what, m, code, x.mem, impl.MemFull)
					continue
				}
				want := edited(x.mem, areas(who, list...), func(m *impl.Mem) {
					clear(m.Spaces[who].Slots[a.From : a.From+a.Many])
				}, emptyUntold)
				wantCode(t, what, m, code, want, impl.MemFine)
				wantMeaning(t, what, m, meaningOf(x.mem).cut(who, a, list))
			}
		}
	}
}

// emptyUntold takes the texts of places that no slot tells.
func emptyUntold(m *impl.Mem) {
	recount(m)
	for at := range 12 {
		if m.Ram.Refs[at] == 0 {
			m.Ram.Text[at] = ""
		}
		if m.Swap.Refs[at] == 0 {
			m.Swap.Text[at] = ""
		}
	}
}

// Promise 26.
func TestMemForkKeepsTheMeaning(t *testing.T) {
	for _, x := range validMems() {
		for _, who := range whosToTry() {
			what := fmt.Sprintf("%s: MemFork of space %d", x.name, who)
			m, child, ok := impl.MemFork(x.mem, who)
			at := firstDead(x.mem)
			if !isLive(x.mem, who) || at == -1 || nowhereShared(x.mem, who) > countFree(x.mem.Ram)+countFree(x.mem.Swap) {
				wantNoSpace(t, what, m, child, ok)
				continue
			}
			if !ok || child != at {
				t.Fatalf("%s: it told %d, %v, want %d", what, child, ok, at)
			}
			wantMeaning(t, what, m, meaningOf(x.mem).fork(who, child))
			if n := placesTaken(m) - placesTaken(x.mem); n != nowhereShared(x.mem, who) {
				t.Fatalf("%s: it took %d places", what, n)
			}
			wantTwins(t, what, m, who, child)
		}
	}
}

// wantTwins checks that two spaces have the same slots, and Own just of Shared pages.
func wantTwins(t *testing.T, what string, m impl.Mem, who, child int) {
	t.Helper()
	if !slices.Equal(m.Spaces[who].Slots, m.Spaces[child].Slots) {
		t.Fatalf("%s: their slots are unlike: %s", what, memText(m))
	}
	for page, k := range m.Spaces[child].Slots {
		if a, _ := areaOf(m.Spaces[child], page); k.Own != a.Shared {
			t.Fatalf("%s: the slot of page %d is %v", what, page, k)
		}
	}
}

// Promise 27.
func TestMemDropGivesBack(t *testing.T) {
	for _, x := range validMems() {
		for _, who := range whosToTry() {
			what := fmt.Sprintf("%s: MemDrop of space %d", x.name, who)
			m, ok := impl.MemDrop(x.mem, who)
			if ok != isLive(x.mem, who) {
				t.Fatalf("%s: %v", what, ok)
			}
			if !ok {
				wantMem(t, what, m, impl.Mem{})
				continue
			}
			wantMem(t, what, m, edited(x.mem, space(who, impl.Space{}), emptyUntold))
			wantMeaning(t, what, m, meaningOf(x.mem).drop(who))
		}
	}
}

// Promise 27: behind MemDrop of each space all is free again.
func TestMemDropOfAllGivesBackAll(t *testing.T) {
	for _, x := range validMems() {
		m := x.mem
		for who := range 5 {
			if isLive(m, who) {
				m, _ = impl.MemDrop(m, who)
			}
		}
		wantMem(t, x.name+": MemDrop of all", m, memOf(x.mem.Hand))
	}
}
