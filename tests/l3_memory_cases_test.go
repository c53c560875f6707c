package tests

import (
	"fmt"
	"testing"

	"loop.example/quarterdeck/impl"
)

// zeroBytes is the text of a page that was nowhere.
const zeroBytes = "\x00\x00\x00\x00"

// memCase is a byte of memory that is read or written, the code, the byte that is read, and what changes then.
type memCase struct {
	name string
	mem  impl.Mem
	who  int
	addr int
	code int
	b    int
	then []memEdit
}

func (x memCase) checkGet(t *testing.T) {
	t.Helper()
	m, b, code := impl.MemGet(x.mem, x.who, x.addr)
	wantCode(t, "MemGet, "+x.name, m, code, edited(x.mem, x.then...), x.code)
	if b != x.b {
		t.Errorf("MemGet, %s: byte %d, want %d", x.name, b, x.b)
	}
}

func (x memCase) checkSet(t *testing.T) {
	t.Helper()
	m, code := impl.MemSet(x.mem, x.who, x.addr, x.b)
	wantCode(t, "MemSet, "+x.name, m, code, edited(x.mem, x.then...), x.code)
}

func TestMemConstants(t *testing.T) {
	for k, c := range []int{impl.SlotNone, impl.SlotFrame, impl.SlotSwap} {
		if c != k {
			t.Errorf("the kind %d of slots is %d", k, c)
		}
	}
	for k, c := range []int{impl.MemFine, impl.MemBad, impl.MemNone, impl.MemRead, impl.MemFull, impl.MapMax} {
		if c != k {
			t.Errorf("the code %d, or MapMax, is %d", k, c)
		}
	}
}

// Promise 20, with places that are written out.
func TestMemGetCases(t *testing.T) {
	// The places 0, 2 and 3 of memory are taken, and 1 and 4 of swap.
	m := memOf(7,
		liveSpace([]impl.Area{writable(0, 8), area(10, 2), shared(14, 2)}, map[int]string{0: "f0o", 1: "f2", 2: "s1", 3: "s4ou", 10: "f3ou", 15: "f5o"}),
		liveSpace([]impl.Area{writable(0, 8), shared(14, 2)}, map[int]string{1: "f2u", 2: "s1u", 15: "f5o"}))
	for _, x := range []memCase{
		{"nowhere, the first free place", m, 0, 16, impl.MemFine, 0, []memEdit{put(0, 4, "f1ou"), ram(1, zeroBytes)}},
		{"nowhere, only read", m, 0, 44, impl.MemFine, 0, []memEdit{put(0, 11, "f1ou"), ram(1, zeroBytes)}},
		{"nowhere, Shared", m, 0, 57, impl.MemFine, 0, []memEdit{put(0, 14, "f1ou"), ram(1, zeroBytes)}},
		{"in memory", m, 0, 3, impl.MemFine, 'A', []memEdit{put(0, 0, "f0ou")}},
		{"in memory, without Own", m, 0, 4, impl.MemFine, 'C', []memEdit{put(0, 1, "f2u")}},
		{"in memory, Used already", m, 1, 5, impl.MemFine, 'C', nil},
		{"in memory, only read", m, 0, 40, impl.MemFine, 'D', nil},
		{"in memory, Shared", m, 1, 63, impl.MemFine, 'F', []memEdit{put(1, 15, "f5ou")}},
		{"in swap, of two", m, 0, 8, impl.MemFine, 'b', []memEdit{put(0, 2, "f1u"), put(1, 2, "f1u"), ram(1, "bbbb"), swap(1, "")}},
		{"in swap, of two, by the other one", m, 1, 11, impl.MemFine, 'b', []memEdit{put(0, 2, "f1"), put(1, 2, "f1u"), ram(1, "bbbb"), swap(1, "")}},
		{"in swap, with Own", m, 0, 15, impl.MemFine, 'e', []memEdit{put(0, 3, "f1ou"), ram(1, "eeee"), swap(4, "")}},
		{"in no area, between", m, 0, 32, impl.MemNone, -1, nil},
		{"in no area, behind", m, 1, 55, impl.MemNone, -1, nil},
	} {
		x.checkGet(t)
	}
}

// Promise 21, with places that are written out.
func TestMemSetCases(t *testing.T) {
	m := memOf(7,
		liveSpace([]impl.Area{writable(0, 8), area(10, 2), shared(14, 2)}, map[int]string{0: "f0o", 1: "f2", 2: "s1", 3: "s4ou", 4: "f4", 5: "s6", 10: "f3ou", 15: "f5o"}),
		liveSpace([]impl.Area{writable(0, 8), readShared(14, 2)}, map[int]string{1: "f2u", 2: "s1u", 15: "f5o"}))
	for _, x := range []memCase{
		{"nowhere", m, 0, 25, impl.MemFine, 'z', []memEdit{put(0, 6, "f1ou"), ram(1, "\x00z\x00\x00")}},
		{"nowhere, Shared", m, 0, 59, impl.MemFine, 255, []memEdit{put(0, 14, "f1ou"), ram(1, "\x00\x00\x00\xff")}},
		{"in memory, with Own", m, 0, 0, impl.MemFine, 0, []memEdit{put(0, 0, "f0ou"), ram(0, "\x00AAA")}},
		{"in memory, without Own, of two", m, 0, 7, impl.MemFine, 'z', []memEdit{put(0, 1, "f1ou"), ram(1, "CCCz")}},
		{"in memory, without Own, of two, by the other one", m, 1, 4, impl.MemFine, 'z', []memEdit{put(1, 1, "f1ou"), ram(1, "zCCC")}},
		{"in memory, without Own, of one", m, 0, 17, impl.MemFine, 'z', []memEdit{put(0, 4, "f4ou"), ram(4, "EzEE")}},
		{"in swap, without Own, of two", m, 0, 8, impl.MemFine, 'z', []memEdit{put(0, 2, "f6ou"), put(1, 2, "f1u"), ram(1, "bbbb"), ram(6, "zbbb"), swap(1, "")}},
		{"in swap, without Own, of one", m, 0, 20, impl.MemFine, 'z', []memEdit{put(0, 5, "f1ou"), ram(1, "zggg"), swap(6, "")}},
		{"in swap, with Own", m, 0, 14, impl.MemFine, 'z', []memEdit{put(0, 3, "f1ou"), ram(1, "eeze"), swap(4, "")}},
		{"in memory, Shared", m, 0, 61, impl.MemFine, 'z', []memEdit{put(0, 15, "f5ou"), ram(5, "FzFF")}},
		{"what was there", m, 0, 2, impl.MemFine, 'A', []memEdit{put(0, 0, "f0ou")}},
		{"only read", m, 0, 40, impl.MemRead, 'z', nil},
		{"only read, nowhere", m, 0, 47, impl.MemRead, 'z', nil},
		{"only read by this one, Shared", m, 1, 60, impl.MemRead, 'z', nil},
		{"in no area", m, 0, 36, impl.MemNone, 'z', nil},
		{"in no area, behind", m, 1, 32, impl.MemNone, 'z', nil},
	} {
		x.checkSet(t)
	}
}

// A page without Own that three tell is copied for the first two that write it, and not for the last one.
func TestMemSetOfThree(t *testing.T) {
	page := privateSpace(map[int]string{2: "f0"})
	m := memOf(0, page, page, page)
	m, _ = impl.MemSet(m, 1, 8, 'x')
	m, _ = impl.MemSet(m, 0, 9, 'y')
	m, code := impl.MemSet(m, 2, 10, 'z')
	want := memOf(0, privateSpace(map[int]string{2: "f2ou"}), privateSpace(map[int]string{2: "f1ou"}), privateSpace(map[int]string{2: "f0ou"}))
	wantCode(t, "MemSet by three", m, code, edited(want, ram(0, "AAzA"), ram(1, "xAAA"), ram(2, "AyAA")), impl.MemFine)
}

// What two have in a Shared area, both write and read, also through swap.
func TestMemSetOfSharedPages(t *testing.T) {
	m := memOf(0, sharedSpace(map[int]string{2: "s3o"}), sharedSpace(map[int]string{2: "s3o"}))
	m, one := impl.MemSet(m, 1, 8, 'x')
	m, two := impl.MemSet(m, 0, 9, 'y')
	m, b, three := impl.MemGet(m, 1, 9)
	want := memOf(0, sharedSpace(map[int]string{2: "f0ou"}), sharedSpace(map[int]string{2: "f0ou"}))
	wantMem(t, "MemSet of Shared pages", m, edited(want, ram(0, "xydd")))
	if one+two+three != 0 || b != 'y' {
		t.Errorf("the codes are %d, %d, %d, and the byte %d", one, two, three, b)
	}
}

func TestMemPeekCases(t *testing.T) {
	m := memOf(2, liveSpace([]impl.Area{area(0, 2), shared(14, 2)}, map[int]string{0: "f1", 15: "s11o"}), impl.Space{}, privateSpace(nil))
	m = edited(m, ram(1, "wx\x00\xff"), swap(11, "1234"))
	for _, x := range []struct {
		who, addr, b int
		ok           bool
	}{
		{0, 0, 'w', true}, {0, 1, 'x', true}, {0, 2, 0, true}, {0, 3, 255, true}, {0, 4, 0, true}, {0, 7, 0, true},
		{0, 8, 0, false}, {0, 55, 0, false}, {0, 56, 0, true}, {0, 60, '1', true}, {0, 63, '4', true}, {0, 64, 0, false}, {0, -1, 0, false},
		{1, 0, 0, false}, {2, 0, 0, true}, {2, 63, 0, true}, {3, 0, 0, false}, {5, 0, 0, false}, {-1, 0, 0, false},
	} {
		if b, ok := impl.MemPeek(m, x.who, x.addr); b != x.b || ok != x.ok {
			t.Errorf("MemPeek of %d of space %d told %d, %v, want %d, %v", x.addr, x.who, b, ok, x.b, x.ok)
		}
	}
}

// Promise 23, up to the last space, and into one between others.
func TestMemMakeCases(t *testing.T) {
	m := impl.MemNew()
	for who := range 5 {
		n, at, ok := impl.MemMake(m)
		if !ok || at != who {
			t.Fatalf("MemMake told %d, %v, want %d", at, ok, who)
		}
		m = n
	}
	none := liveSpace(nil, nil)
	wantMem(t, "MemMake five times", m, memOf(0, none, none, none, none, none))
	n, at, ok := impl.MemMake(m)
	wantNoSpace(t, "MemMake of a sixth one", n, at, ok)
	m, _ = impl.MemDrop(m, 3)
	m, _ = impl.MemDrop(m, 1)
	m, at, ok = impl.MemMake(m)
	if !ok || at != 1 {
		t.Errorf("MemMake told %d, %v, want 1", at, ok)
	}
	wantMem(t, "MemMake between", m, memOf(0, none, none, none, impl.Space{}, none))
}

// Promise 24, with areas that are written out.
func TestMemMapCases(t *testing.T) {
	m := memOf(5, liveSpace(sixAreas(), map[int]string{0: "f3"}), liveSpace(fiveAreas(), map[int]string{1: "s3ou"}), liveSpace(nil, nil))
	for _, x := range []struct {
		name string
		who  int
		a    impl.Area
		code int
		then []memEdit
	}{
		{"all pages", 2, shared(0, 16), impl.MemFine, []memEdit{areas(2, shared(0, 16))}},
		{"the last page", 2, area(15, 1), impl.MemFine, []memEdit{areas(2, area(15, 1))}},
		{"the sixth", 1, writable(0, 1), impl.MemFine, []memEdit{areas(1, append([]impl.Area{writable(0, 1)}, fiveAreas()...)...)}},
		{"the seventh", 0, writable(2, 1), impl.MemFull, nil},
		{"a page of another one", 1, writable(0, 2), impl.MemFull, nil},
		{"no pages", 2, writable(0, 0), impl.MemFull, nil},
		{"a page too far", 2, writable(15, 2), impl.MemFull, nil},
		{"a page below", 2, writable(-1, 2), impl.MemFull, nil},
	} {
		got, code := impl.MemMap(m, x.who, x.a)
		wantCode(t, "MemMap, "+x.name, got, code, edited(m, x.then...), x.code)
	}
	got, code := impl.MemMap(m, 3, writable(0, 1))
	wantCode(t, "MemMap to a space that is not live", got, code, impl.Mem{}, impl.MemBad)
}

// Promise 25, with pages that are written out.
func TestMemCutCases(t *testing.T) {
	m := memOf(5,
		liveSpace([]impl.Area{writable(0, 6), shared(8, 4)}, map[int]string{0: "f0ou", 1: "f1u", 2: "s2", 3: "s3ou", 5: "f5o", 8: "f8ou", 9: "s9o"}),
		liveSpace([]impl.Area{writable(0, 6), shared(8, 4)}, map[int]string{1: "f1", 2: "s2u", 8: "f8o", 9: "s9o"}),
		liveSpace(sixAreas(), map[int]string{7: "f7", 8: "f10o"}))
	for _, x := range []struct {
		name            string
		who, from, many int
		code            int
		then            []memEdit
	}{
		{"the middle", 0, 1, 3, impl.MemFine, []memEdit{areas(0, writable(0, 1), writable(4, 2), shared(8, 4)), put(0, 1, ""), put(0, 2, ""), put(0, 3, ""), swap(3, "")}},
		{"the first page", 0, 0, 1, impl.MemFine, []memEdit{areas(0, writable(1, 5), shared(8, 4)), put(0, 0, ""), ram(0, "")}},
		{"a page of two, Shared", 1, 8, 1, impl.MemFine, []memEdit{areas(1, writable(0, 6), shared(9, 3)), put(1, 8, "")}},
		{"pages of no area", 0, 12, 4, impl.MemFine, nil},
		{"parts of two areas", 0, 5, 4, impl.MemFine, []memEdit{areas(0, writable(0, 5), shared(9, 3)), put(0, 5, ""), put(0, 8, ""), ram(5, "")}},
		{"all pages", 1, 0, 16, impl.MemFine, []memEdit{areas(1), put(1, 1, ""), put(1, 2, ""), put(1, 8, ""), put(1, 9, "")}},
		{"to seven areas", 2, 8, 1, impl.MemFull, nil},
		{"one of six areas", 2, 7, 3, impl.MemFine, []memEdit{areas(2, writable(0, 2), shared(3, 1), area(5, 1), readShared(11, 1), writable(13, 2)), put(2, 7, ""), put(2, 8, ""), ram(7, ""), ram(10, "")}},
		{"no pages", 0, 3, 0, impl.MemFull, nil},
		{"a page too far", 0, 15, 2, impl.MemFull, nil},
		{"a page below", 0, -1, 2, impl.MemFull, nil},
	} {
		got, code := impl.MemCut(m, x.who, x.from, x.many)
		wantCode(t, "MemCut, "+x.name, got, code, edited(m, x.then...), x.code)
	}
	got, code := impl.MemCut(m, 3, 0, 1)
	wantCode(t, "MemCut of a space that is not live", got, code, impl.Mem{}, impl.MemBad)
}

// Promise 26, with places that are written out.
func TestMemForkCases(t *testing.T) {
	list := []impl.Area{writable(0, 4), area(5, 2), shared(8, 3), readShared(12, 2)}
	slots := map[int]string{0: "f0ou", 1: "s1o", 2: "f2", 5: "f3ou", 8: "f4o", 9: "s5ou"}
	m := memOf(7, impl.Space{}, privateSpace(map[int]string{2: "f2u"}), liveSpace(list, slots), liveSpace(nil, nil))
	// The pages 10, 12 and 13 are nowhere yet, and Shared.
	forked := liveSpace(list, map[int]string{0: "f0u", 1: "s1", 2: "f2", 5: "f3u", 8: "f4o", 9: "s5ou", 10: "f1ou", 12: "f5ou", 13: "f6ou"})
	want := edited(m, space(0, forked), space(2, liveSpace(list, nil)), ram(1, zeroBytes), ram(5, zeroBytes), ram(6, zeroBytes), func(m *impl.Mem) {
		copy(m.Spaces[2].Slots, forked.Slots)
	})
	got, child, ok := impl.MemFork(m, 2)
	if !ok || child != 0 {
		t.Fatalf("MemFork told %d, %v, want 0", child, ok)
	}
	wantMem(t, "MemFork", got, want)
	got, child, ok = impl.MemFork(got, 3)
	if !ok || child != 4 {
		t.Fatalf("MemFork without areas told %d, %v, want 4", child, ok)
	}
	wantMem(t, "MemFork without areas", got, edited(want, space(4, liveSpace(nil, nil))))
	got, child, ok = impl.MemFork(got, 3)
	wantNoSpace(t, "MemFork where all are live", got, child, ok)
	got, child, ok = impl.MemFork(m, 4)
	wantNoSpace(t, "MemFork of a space that is not live", got, child, ok)
}

// Promise 26: a child is forked up to the last space, and one place is told by all of them.
func TestMemForkOfForks(t *testing.T) {
	m := memOf(0, liveSpace([]impl.Area{writable(0, 1), shared(1, 1)}, map[int]string{0: "f0o", 1: "s0o"}))
	for who := range 4 {
		n, child, ok := impl.MemFork(m, who)
		if !ok || child != who+1 {
			t.Fatalf("MemFork of %d told %d, %v", who, child, ok)
		}
		m = n
	}
	one := liveSpace([]impl.Area{writable(0, 1), shared(1, 1)}, map[int]string{0: "f0", 1: "s0o"})
	wantMem(t, "MemFork of forks", m, memOf(0, one, one, one, one, one))
	m, _ = impl.MemSet(m, 2, 0, 'x')
	m, _ = impl.MemSet(m, 3, 4, 'y')
	for who := range 5 {
		private, _ := impl.MemPeek(m, who, 0)
		common, _ := impl.MemPeek(m, who, 4)
		if (private == 'x') != (who == 2) || common != 'y' {
			t.Errorf("space %d has the bytes %d and %d", who, private, common)
		}
	}
}

// Promise 27, with places that are written out.
func TestMemDropCases(t *testing.T) {
	slots := map[int]string{0: "f0", 1: "s1", 8: "f4o", 9: "s5ou"}
	one := liveSpace([]impl.Area{writable(0, 4), shared(8, 3)}, slots)
	slots[2], slots[10] = "f2ou", "s2o"
	two := liveSpace([]impl.Area{writable(0, 4), shared(8, 3)}, slots)
	m := memOf(9, one, two)
	got, ok := impl.MemDrop(m, 1)
	wantMem(t, fmt.Sprintf("MemDrop of one of two: %v", ok), got, memOf(9, one))
	got, ok = impl.MemDrop(m, 0)
	wantMem(t, fmt.Sprintf("MemDrop of the other one: %v", ok), got, memOf(9, impl.Space{}, two))
	got, ok = impl.MemDrop(got, 1)
	wantMem(t, fmt.Sprintf("MemDrop of both: %v", ok), got, memOf(9))
	got, ok = impl.MemDrop(got, 1)
	if ok {
		t.Errorf("MemDrop of a space that is not live is true")
	}
	wantMem(t, "MemDrop of a space that is not live", got, impl.Mem{})
}
