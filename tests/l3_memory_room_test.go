package tests

import (
	"testing"

	"loop.example/quarterdeck/impl"
)

// goneTo puts the page of fullRam in a place of memory to one of swap, and the page of zero bytes 12 of space 0 to its place.
func goneTo(at, to int) []memEdit {
	return []memEdit{put(0, at, slotText('s', to, "o")), swap(to, ramText(at)), ram(at, zeroBytes), put(0, 12, slotText('f', at, "ou"))}
}

func slotText(kind byte, at int, marks string) string {
	digits := []string{"0", "1", "2", "3", "4", "5", "6", "7", "8", "9", "10", "11"}
	return string(kind) + digits[at] + marks
}

// notUsed takes Used from the pages of fullRam in places of memory.
func notUsed(list ...int) memEdit {
	return func(m *impl.Mem) {
		for _, at := range list {
			m.Spaces[0].Slots[at].Used = false
		}
	}
}

// Hand goes round in full memory; the byte is that of page 12 of space 0, which is nowhere yet.
func TestMemHand(t *testing.T) {
	then := func(list []memEdit, more ...memEdit) []memEdit { return append(list, more...) }
	for _, x := range []memCase{
		{"nothing Used, Hand 0", fullRam(0, 0), 0, 48, impl.MemFine, 0, then(goneTo(0, 0), hand(1))},
		{"nothing Used, Hand 5", fullRam(5, 0), 0, 48, impl.MemFine, 0, then(goneTo(5, 0), hand(6))},
		{"nothing Used, Hand 11", fullRam(11, 0), 0, 48, impl.MemFine, 0, then(goneTo(11, 0), hand(0))},
		{"the first two Used", fullRam(3, 0, 3, 4), 0, 48, impl.MemFine, 0, then(goneTo(5, 0), notUsed(3, 4), hand(6))},
		{"the second one Used", fullRam(3, 0, 4), 0, 48, impl.MemFine, 0, then(goneTo(3, 0), hand(4))},
		{"round past the last place", fullRam(10, 0, 10, 11, 0, 2), 0, 48, impl.MemFine, 0, then(goneTo(1, 0), notUsed(10, 11, 0), hand(2))},
		{"all Used, Hand 0", fullRam(0, 0, allUsed()...), 0, 48, impl.MemFine, 0, then(goneTo(0, 0), notUsed(allUsed()...), hand(1))},
		{"all Used, Hand 7", fullRam(7, 0, allUsed()...), 0, 48, impl.MemFine, 0, then(goneTo(7, 0), notUsed(allUsed()...), hand(8))},
		{"all Used, Hand 11", fullRam(11, 0, allUsed()...), 0, 48, impl.MemFine, 0, then(goneTo(11, 0), notUsed(allUsed()...), hand(0))},
		{"all Used but the last one", fullRam(0, 0, 0, 1, 2, 3, 4, 5, 6, 7, 8, 9, 10), 0, 48, impl.MemFine, 0, then(goneTo(11, 0), notUsed(allUsed()...), hand(0))},
		{"some of swap taken", fullRam(2, 5, 2), 0, 48, impl.MemFine, 0, then(goneTo(3, 5), notUsed(2), hand(4))},
		{"all of swap taken but one place", fullRam(2, 11), 0, 48, impl.MemFine, 0, then(goneTo(2, 11), hand(3))},
		{"a place of swap free between", edited(fullRam(2, 11), put(1, 4, ""), swap(4, "")), 0, 48, impl.MemFine, 0, then(goneTo(2, 4), hand(3))},
		{"all of swap taken", fullRam(2, 12, 2, 3), 0, 48, impl.MemFull, -1, nil},
		{"all of swap taken, all Used", fullRam(9, 12, allUsed()...), 0, 48, impl.MemFull, -1, nil},
		{"a place of memory free", edited(fullRam(2, 3, 2), put(0, 7, ""), ram(7, "")), 0, 48, impl.MemFine, 0, []memEdit{ram(7, zeroBytes), put(0, 12, "f7ou")}},
		{"a place of memory free, none of swap", edited(fullRam(2, 12, 2), put(0, 7, ""), ram(7, "")), 0, 48, impl.MemFine, 0, []memEdit{ram(7, zeroBytes), put(0, 12, "f7ou")}},
	} {
		x.checkGet(t)
		if x.code == impl.MemFine {
			x.then = append(x.then, func(m *impl.Mem) {
				k := m.Spaces[0].Slots[12]
				m.Ram.Text[k.At] = "\x01\x00\x00\x00"
			})
		}
		x.b = 1
		x.checkSet(t)
	}
}

// A place that several slots tell is Used if one of them is, and none of them is then; as a victim all of them go with it.
func TestMemHandAtPlacesOfSeveral(t *testing.T) {
	m := edited(fullRam(4, 2), put(0, 4, "f4"), put(0, 5, "f5u"), put(0, 6, "f6"),
		space(2, privateSpace(map[int]string{4: "f4", 5: "f5", 6: "f6u", 7: "s1u"})),
		space(1, privateSpace(map[int]string{0: "s0o", 1: "s1", 4: "f4"})))
	gone := []memEdit{put(0, 4, "s2"), put(1, 4, "s2"), put(2, 4, "s2"), swap(2, "EEEE"), ram(4, zeroBytes), hand(5)}
	memCase{"told by three, none Used", m, 0, 48, impl.MemFine, 0, append(gone, put(0, 12, "f4ou"))}.checkGet(t)

	m = edited(m, put(1, 4, "f4u"))
	rest := []memEdit{put(0, 5, "f5"), put(1, 4, "f4"), put(2, 6, "f6"), put(0, 7, "s2o"), swap(2, "HHHH"), ram(7, zeroBytes), hand(8), put(0, 12, "f7ou")}
	memCase{"told by three, one Used, and two of two", m, 0, 48, impl.MemFine, 0, rest}.checkGet(t)

	// That a slot of the same place of swap is Used says nothing of a place of memory.
	m = edited(fullRam(0, 0), space(1, privateSpace(map[int]string{0: "s0ou"})), swap(0, "aaaa"))
	memCase{"the same place of swap Used", m, 0, 48, impl.MemFine, 0, append(goneTo(0, 1), hand(1))}.checkGet(t)
}

// A page comes from swap to full memory: its place is free only behind the victim was put to another one.
func TestMemFromSwapToFullMemory(t *testing.T) {
	for _, x := range []memCase{
		{"some of swap free", fullRam(3, 5), 1, 8, impl.MemFine, 'c', []memEdit{put(0, 3, "s5o"), swap(5, "DDDD"), put(1, 2, "f3ou"), ram(3, "cccc"), swap(2, ""), hand(4)}},
		{"one place of swap free", fullRam(3, 11, 3), 1, 43, impl.MemFine, 'k', []memEdit{notUsed(3), put(0, 4, "s11o"), swap(11, "EEEE"), put(1, 10, "f4ou"), ram(4, "kkkk"), swap(10, ""), hand(5)}},
		{"no place of swap free", fullRam(3, 12, 3), 1, 8, impl.MemFull, -1, nil},
		{"no place of swap free, in memory", fullRam(3, 12), 0, 8, impl.MemFine, 'C', []memEdit{put(0, 2, "f2ou")}},
		{"no place of swap free, in no area", edited(fullRam(3, 12), areas(1, writable(0, 12))), 1, 48, impl.MemNone, -1, nil},
	} {
		x.checkGet(t)
	}
	both := edited(fullRam(3, 5), space(2, privateSpace(map[int]string{2: "s2u"})), put(1, 2, "s2"))
	memCase{"of two", both, 1, 8, impl.MemFine, 'c', []memEdit{put(0, 3, "s5o"), swap(5, "DDDD"), put(1, 2, "f3u"), put(2, 2, "f3u"), ram(3, "cccc"), swap(2, ""), hand(4)}}.checkGet(t)
}

// The pages 4, 5 and 6 of forkedFull are Used in both spaces, and Hand is at page 4.
func TestMemSetCopiesInFullMemory(t *testing.T) {
	// Hand goes by the place of the page itself, and what is Used there stays so.
	some := forkedFull(3)
	memCase{"Hand at the page", some, 0, 17, impl.MemFine, 'z', []memEdit{
		put(0, 5, "f5"), put(2, 5, "f5"), put(0, 6, "f6"), put(2, 6, "f6"), put(0, 7, "s3"), put(2, 7, "s3"), swap(3, "HHHH"),
		put(0, 4, "f7ou"), ram(7, "EzEE"), hand(8)}}.checkSet(t)
	memCase{"the page ahead of others", edited(some, hand(5)), 2, 16, impl.MemFine, 'z', []memEdit{
		put(0, 5, "f5"), put(2, 5, "f5"), put(0, 6, "f6"), put(2, 6, "f6"), put(0, 7, "s3"), put(2, 7, "s3"), swap(3, "HHHH"),
		put(2, 4, "f7ou"), ram(7, "zEEE"), hand(8)}}.checkSet(t)
	memCase{"the page not Used, and where Hand is", edited(some, hand(8)), 0, 35, impl.MemFine, 'z', []memEdit{
		put(0, 9, "s3"), put(2, 9, "s3"), swap(3, "JJJJ"), put(0, 8, "f9ou"), ram(9, "IIIz"), hand(10)}}.checkSet(t)
	memCase{"the last place", edited(some, hand(11)), 0, 44, impl.MemFine, 'z', []memEdit{
		put(0, 0, "s3"), put(2, 0, "s3"), swap(3, "AAAA"), put(0, 11, "f0ou"), ram(0, "zLLL"), hand(1)}}.checkSet(t)

	// Hand goes round, and by the page's place twice.
	memCase{"all Used", allUsedTwice(), 0, 17, impl.MemFine, 'z', append(restBut(4), put(0, 5, "s3"), put(2, 5, "s3"), swap(3, "FFFF"),
		put(0, 4, "f5ou"), put(2, 4, "f4u"), ram(5, "EzEE"), hand(6))}.checkSet(t)

	memCase{"one place of swap free", forkedFull(11), 2, 0, impl.MemFine, 'z', []memEdit{
		put(0, 4, "f4"), put(2, 4, "f4"), put(0, 5, "f5"), put(2, 5, "f5"), put(0, 6, "f6"), put(2, 6, "f6"), put(0, 7, "s11"), put(2, 7, "s11"), swap(11, "HHHH"),
		put(2, 0, "f7ou"), ram(7, "zAAA"), hand(8)}}.checkSet(t)
	memCase{"just the copy has no room", forkedFull(12), 2, 0, impl.MemFull, 'z', nil}.checkSet(t)
	memCase{"just the copy has no room, Used", forkedFull(12), 0, 17, impl.MemFull, 'z', nil}.checkSet(t)
	memCase{"no copy is made, without room", edited(forkedFull(12), space(2, impl.Space{})), 0, 0, impl.MemFine, 'z', []memEdit{put(0, 0, "f0ou"), ram(0, "zAAA")}}.checkSet(t)
	memCase{"only read, without room", edited(forkedFull(12), areas(2, area(0, 16))), 2, 0, impl.MemRead, 'z', nil}.checkSet(t)
	memCase{"only read, nowhere, without room", edited(forkedFull(12), areas(2, area(0, 16))), 2, 60, impl.MemRead, 'z', nil}.checkSet(t)
	memCase{"in no area, without room", edited(forkedFull(12), areas(2, area(0, 12))), 2, 60, impl.MemNone, 'z', nil}.checkSet(t)
}

// allUsedTwice is forkedFull with all pages Used in both spaces.
func allUsedTwice() impl.Mem {
	return edited(forkedFull(3), func(m *impl.Mem) {
		for at := range 12 {
			m.Spaces[0].Slots[at].Used, m.Spaces[2].Slots[at].Used = true, true
		}
	})
}

// restBut takes Used from all pages of forkedFull but one.
func restBut(page int) []memEdit {
	return []memEdit{func(m *impl.Mem) {
		for at := range 12 {
			if at != page {
				m.Spaces[0].Slots[at].Used, m.Spaces[2].Slots[at].Used = false, false
			}
		}
	}}
}

// A page of two comes from swap, and then is copied: room is found twice.
func TestMemSetCopiesFromSwap(t *testing.T) {
	of := func(swapped int) impl.Mem {
		return edited(fullRam(3, swapped, 4), put(1, 2, "s2"), space(2, privateSpace(map[int]string{2: "s2u"})))
	}
	memCase{"some of swap free", of(5), 1, 8, impl.MemFine, 'z', []memEdit{
		put(0, 3, "s5o"), swap(5, "DDDD"), put(2, 2, "f3u"), ram(3, "cccc"),
		notUsed(4), put(0, 5, "s2o"), swap(2, "FFFF"), put(1, 2, "f5ou"), ram(5, "zccc"), hand(6)}}.checkSet(t)
	memCase{"one place of swap free", of(11), 2, 11, impl.MemFine, 'z', []memEdit{
		put(0, 3, "s11o"), swap(11, "DDDD"), put(1, 2, "f3"), ram(3, "cccc"),
		notUsed(4), put(0, 5, "s2o"), swap(2, "FFFF"), put(2, 2, "f5ou"), ram(5, "cccz"), hand(6)}}.checkSet(t)
	memCase{"no place of swap free", of(12), 1, 8, impl.MemFull, 'z', nil}.checkSet(t)
	one := edited(of(12), put(0, 9, ""), ram(9, ""))
	memCase{"one place of memory free, none of swap", one, 1, 8, impl.MemFine, 'z', []memEdit{
		put(2, 2, "f9u"), ram(9, "cccc"), put(0, 3, "s2o"), swap(2, "DDDD"), put(1, 2, "f3ou"), ram(3, "zccc"), hand(4)}}.checkSet(t)
	two := edited(one, put(0, 1, ""), ram(1, ""))
	memCase{"two places of memory free, none of swap", two, 1, 8, impl.MemFine, 'z', []memEdit{
		put(2, 2, "f1u"), ram(1, "cccc"), swap(2, ""), put(1, 2, "f9ou"), ram(9, "zccc")}}.checkSet(t)
}

// What needs no room is done without any.
func TestMemWithoutAnyRoom(t *testing.T) {
	m := fullRam(6, 12, 1, 6)
	wantPeeks(t, "full memory and swap", m, meaningOf(m))
	if b, ok := impl.MemPeek(m, 1, 8); b != 'c' || !ok {
		t.Errorf("MemPeek of what is in swap told %d, %v", b, ok)
	}
	if b, ok := impl.MemPeek(m, 0, 63); b != 0 || !ok {
		t.Errorf("MemPeek of what is nowhere told %d, %v", b, ok)
	}
	n, who, ok := impl.MemMake(m)
	if !ok || who != 2 {
		t.Errorf("MemMake told %d, %v", who, ok)
	}
	wantMem(t, "MemMake", n, edited(m, space(2, liveSpace(nil, nil))))
	o, code := impl.MemMap(n, 2, shared(0, 16))
	wantCode(t, "MemMap", o, code, edited(n, space(2, sharedSpace(nil))), impl.MemFine)
	n, code = impl.MemMap(o, 2, writable(3, 1))
	wantCode(t, "MemMap of pages of another area", n, code, o, impl.MemFull)
	n, code = impl.MemCut(m, 0, 12, 4)
	wantCode(t, "MemCut", n, code, edited(m, areas(0, writable(0, 12))), impl.MemFine)
	n, child, ok := impl.MemFork(m, 0)
	want := edited(m, space(2, privateSpace(nil)), func(m *impl.Mem) {
		for page := range 12 {
			m.Spaces[0].Slots[page].Own = false
		}
		copy(m.Spaces[2].Slots, m.Spaces[0].Slots)
	})
	if !ok || child != 2 {
		t.Errorf("MemFork told %d, %v", child, ok)
	}
	wantMem(t, "MemFork of private pages", n, want)
	n, child, ok = impl.MemFork(o, 2)
	wantNoSpace(t, "MemFork of Shared pages that are nowhere", n, child, ok)
}

// Pages of Shared areas that are nowhere are brought in ahead of a fork, as far as there is room for all of them.
func TestMemForkBringsInToFullMemory(t *testing.T) {
	list := []impl.Area{writable(0, 12), readShared(12, 1), shared(14, 1)}
	of := func(swapped int) impl.Mem { return edited(fullRam(2, swapped, 3), areas(0, list...)) }
	want := edited(of(10), put(0, 2, "s10o"), swap(10, "CCCC"), put(0, 12, "f2ou"), ram(2, zeroBytes),
		notUsed(3), put(0, 4, "s11o"), swap(11, "EEEE"), put(0, 14, "f4ou"), ram(4, zeroBytes), hand(5),
		space(2, liveSpace(list, nil)), func(m *impl.Mem) {
			for page := range 12 {
				m.Spaces[0].Slots[page].Own = false
			}
			copy(m.Spaces[2].Slots, m.Spaces[0].Slots)
		})
	m, child, ok := impl.MemFork(of(10), 0)
	if !ok || child != 2 {
		t.Errorf("MemFork told %d, %v", child, ok)
	}
	wantMem(t, "MemFork with two places of swap free", m, want)
	for _, swapped := range []int{11, 12} {
		m, child, ok = impl.MemFork(of(swapped), 0)
		wantNoSpace(t, "MemFork with one place of swap free, or none", m, child, ok)
	}
	last := edited(of(12), put(0, 7, ""), ram(7, ""))
	m, child, ok = impl.MemFork(last, 0)
	wantNoSpace(t, "MemFork with one place of memory free", m, child, ok)
	m, child, ok = impl.MemFork(edited(last, areas(0, list[:2]...)), 0)
	if !ok || child != 2 || m.Spaces[2].Slots[12] != slotOf("f7ou") {
		t.Errorf("MemFork of one page with one place of memory free: %d, %v, %s", child, ok, memText(m))
	}
}
