package tests

import (
	"fmt"
	"math"
	"slices"
	"strconv"
	"strings"
	"testing"

	"loop.example/quarterdeck/impl"
)

// namedMem is memory with a name for what a test reports.
type namedMem struct {
	name string
	mem  impl.Mem
}

// memEdit changes memory that a test has made.
type memEdit func(m *impl.Mem)

// slotOf reads a slot: f for memory or s for swap, the place, then o for Own and u for Used; "" is the zero slot.
func slotOf(text string) impl.Slot {
	if text == "" {
		return impl.Slot{}
	}
	at, err := strconv.Atoi(strings.Trim(text, "fsou"))
	if err != nil {
		panic("no slot: " + text)
	}
	kind := impl.SlotFrame
	if text[0] == 's' {
		kind = impl.SlotSwap
	}
	return impl.Slot{Kind: kind, At: at, Own: strings.Contains(text, "o"), Used: strings.Contains(text, "u")}
}

// liveSpace has areas, and the slots of some pages.
func liveSpace(areas []impl.Area, slots map[int]string) impl.Space {
	s := impl.Space{Live: true, Areas: slices.Clone(areas), Slots: make([]impl.Slot, 16)}
	for page, text := range slots {
		s.Slots[page] = slotOf(text)
	}
	return s
}

// privateSpace has one area of all pages, which may be written, and the slots of some pages.
func privateSpace(slots map[int]string) impl.Space {
	return liveSpace([]impl.Area{writable(0, 16)}, slots)
}

// sharedSpace has one Shared area of all pages, which may be written, and the slots of some pages.
func sharedSpace(slots map[int]string) impl.Space {
	return liveSpace([]impl.Area{shared(0, 16)}, slots)
}

// ramText is what memOf puts to a place of memory.
func ramText(at int) string {
	return strings.Repeat(string(rune('A'+at)), 4)
}

// swapText is what memOf puts to a place of swap.
func swapText(at int) string {
	return strings.Repeat(string(rune('a'+at)), 4)
}

// memOf has the first spaces as told, and a text of its own in each place that their slots tell.
func memOf(hand int, spaces ...impl.Space) impl.Mem {
	m := impl.Mem{
		Ram:    impl.Pages{Text: make([]string, 12), Refs: make([]int, 12)},
		Swap:   impl.Pages{Text: make([]string, 12), Refs: make([]int, 12)},
		Spaces: append(slices.Clone(spaces), make([]impl.Space, 5-len(spaces))...),
		Hand:   hand,
	}
	recount(&m)
	for at := range 12 {
		if m.Ram.Refs[at] > 0 {
			m.Ram.Text[at] = ramText(at)
		}
		if m.Swap.Refs[at] > 0 {
			m.Swap.Text[at] = swapText(at)
		}
	}
	return m
}

// fullRam has the pages 0 to 11 of space 0 in the places 0 to 11, some of them Used, and the first pages of space 1 in so many places of swap.
func fullRam(hand int, swapped int, used ...int) impl.Mem {
	ram, swap := map[int]string{}, map[int]string{}
	for at := range 12 {
		ram[at] = fmt.Sprintf("f%do", at)
		if slices.Contains(used, at) {
			ram[at] += "u"
		}
	}
	for at := range swapped {
		swap[at] = fmt.Sprintf("s%do", at)
	}
	return memOf(hand, privateSpace(ram), privateSpace(swap))
}

// allUsed names all places of memory for fullRam.
func allUsed() []int {
	return []int{0, 1, 2, 3, 4, 5, 6, 7, 8, 9, 10, 11}
}

// recount sets the number of those that refer to each place to that of the slots that tell it.
func recount(m *impl.Mem) {
	clear(m.Ram.Refs)
	clear(m.Swap.Refs)
	for _, s := range m.Spaces {
		for _, k := range s.Slots {
			switch {
			case k.Kind == 1 && k.At >= 0 && k.At < len(m.Ram.Refs):
				m.Ram.Refs[k.At]++
			case k.Kind == 2 && k.At >= 0 && k.At < len(m.Swap.Refs):
				m.Swap.Refs[k.At]++
			}
		}
	}
}

// edited is a copy of memory that is changed, with the numbers of those that refer to places counted anew.
func edited(m impl.Mem, edits ...memEdit) impl.Mem {
	n := cloneMem(m)
	for _, e := range edits {
		e(&n)
	}
	recount(&n)
	return n
}

// put makes the slot of a page of a space another one.
func put(who, page int, text string) memEdit {
	return func(m *impl.Mem) { m.Spaces[who].Slots[page] = slotOf(text) }
}

// ram makes the text of a place of memory another one.
func ram(at int, text string) memEdit {
	return func(m *impl.Mem) { m.Ram.Text[at] = text }
}

// swap makes the text of a place of swap another one.
func swap(at int, text string) memEdit {
	return func(m *impl.Mem) { m.Swap.Text[at] = text }
}

// hand makes Hand another one.
func hand(at int) memEdit {
	return func(m *impl.Mem) { m.Hand = at }
}

// areas makes the areas of a space other ones.
func areas(who int, list ...impl.Area) memEdit {
	return func(m *impl.Mem) { m.Spaces[who].Areas = list }
}

// space makes a space another one.
func space(who int, s impl.Space) memEdit {
	return func(m *impl.Mem) { m.Spaces[who] = s }
}

// writtenMems are valid, and written out, so that they are so whatever the program does.
func writtenMems() []namedMem {
	list := []namedMem{
		{"new memory", memOf(0)},
		{"no areas", memOf(11, liveSpace(nil, nil))},
		{"pages that are nowhere", memOf(0, privateSpace(nil), sharedSpace(nil))},
		{"six areas", memOf(3, liveSpace(sixAreas(), map[int]string{0: "f4o", 1: "s3u", 3: "f2ou", 7: "f0", 9: "s11o", 11: "s0o", 14: "f11u"}))},
		{"a page of each kind", memOf(5, liveSpace([]impl.Area{writable(0, 4), area(4, 3), shared(8, 3), readShared(11, 3)}, map[int]string{
			0: "f1o", 1: "s0o", 2: "f0", 4: "s4", 5: "f9ou", 8: "f2o", 9: "s2o", 12: "f3ou"}))},
		{"live spaces with others between", memOf(1, impl.Space{}, privateSpace(map[int]string{3: "f7"}), impl.Space{}, sharedSpace(map[int]string{3: "s7ou"}), impl.Space{})},
		{"only the last one is live", memOf(0, impl.Space{}, impl.Space{}, impl.Space{}, impl.Space{}, privateSpace(map[int]string{15: "f11"}))},
		{"all are live", memOf(7, privateSpace(map[int]string{1: "f1o"}), sharedSpace(nil), liveSpace(nil, nil), liveSpace(fiveAreas(), nil), privateSpace(map[int]string{15: "s11o"}))},
		{"pages without Own of two", memOf(0, privateSpace(map[int]string{0: "f0u", 1: "s0", 2: "f3o"}), privateSpace(map[int]string{0: "f0", 1: "s0u", 2: "s3o"}))},
		{"pages without Own of one", memOf(0, privateSpace(map[int]string{0: "f0u", 1: "s0", 2: "f3"}))},
		{"pages of Shared areas of two", memOf(0, sharedSpace(map[int]string{0: "f0ou", 1: "s0o", 2: "f3o"}), liveSpace([]impl.Area{readShared(0, 9)}, map[int]string{0: "f0o", 1: "s0o", 2: "s3o"}))},
		{"pages of Shared areas of five", memOf(2, sharedSpace(map[int]string{4: "f5o"}), sharedSpace(map[int]string{4: "f5ou"}), sharedSpace(map[int]string{4: "f5o"}), sharedSpace(map[int]string{4: "f5ou"}), sharedSpace(map[int]string{4: "f5o"}))},
		{"one place twice in a space", memOf(2, privateSpace(map[int]string{4: "f5", 6: "f5u", 7: "s1", 8: "s1"}), sharedSpace(map[int]string{0: "f6o", 1: "f6ou"}))},
		{"one place for unlike pages", memOf(2, privateSpace(map[int]string{4: "f5"}), privateSpace(map[int]string{6: "f5"}), sharedSpace(map[int]string{2: "s6o"}), sharedSpace(map[int]string{3: "s6o"}))},
		{"all memory", fullRam(0, 0)},
		{"all memory, all Used", fullRam(4, 0, allUsed()...)},
		{"all memory, some Used, some swap", fullRam(10, 5, 10, 11, 0, 1, 5)},
		{"all memory, all swap but one", fullRam(11, 11, 0, 1)},
		{"all memory, all swap", fullRam(6, 12, allUsed()...)},
		{"all memory, all swap, with a child", forkedFull(12)},
		{"all memory, all swap but one, with a child", forkedFull(11)},
		{"all memory, with a child", forkedFull(0)},
	}
	every := map[int]string{}
	for page := range 16 {
		every[page] = "f3"
	}
	return append(list, namedMem{"all slots tell one place", memOf(3, privateSpace(every), privateSpace(every), privateSpace(every), privateSpace(every), privateSpace(every))})
}

// forkedFull is fullRam with a space 2 that has all pages of space 0, without Own; Hand is at the place of page 4.
func forkedFull(swapped int) impl.Mem {
	m := fullRam(4, swapped, 4, 5, 6)
	return edited(m, func(m *impl.Mem) {
		for page := range m.Spaces[0].Slots {
			m.Spaces[0].Slots[page].Own = false
		}
		m.Spaces[2] = liveSpace(m.Spaces[0].Areas, nil)
		copy(m.Spaces[2].Slots, m.Spaces[0].Slots)
	})
}

// validMems are those that are written out, and those that are reached by calls.
func validMems() []namedMem {
	list := writtenMems()
	for seed := range 12 {
		list = append(list, walkedMems(int64(seed))...)
	}
	return list
}

// baseMem is valid; what invalidMems has is made of it.
func baseMem() impl.Mem {
	return memOf(3,
		liveSpace([]impl.Area{writable(0, 4), shared(6, 3)}, map[int]string{0: "f0o", 1: "f1", 2: "s2u", 6: "f4ou", 7: "s5o"}),
		liveSpace([]impl.Area{writable(0, 4), shared(6, 3)}, map[int]string{1: "f1u", 2: "s2", 3: "s3o", 6: "f4o", 7: "s5o"}))
}

// invalidMems has memory that is not valid for just one cause.
func invalidMems() []namedMem {
	list := []namedMem{{"nothing", impl.Mem{}}}
	list = append(list, invalidPlaces()...)
	list = append(list, invalidSpaces()...)
	return append(list, invalidSlots()...)
}

// broken is baseMem changed, with nothing counted anew.
func broken(name string, edits ...memEdit) namedMem {
	m := baseMem()
	for _, e := range edits {
		e(&m)
	}
	return namedMem{name, m}
}

func invalidPlaces() []namedMem {
	list := []namedMem{}
	for _, h := range []int{math.MinInt, -12, -1, 12, 13, 24, math.MaxInt} {
		list = append(list, broken(fmt.Sprintf("Hand %d", h), hand(h)))
	}
	for k, name := range []string{"memory", "swap"} {
		of := func(m *impl.Mem) *impl.Pages { return []*impl.Pages{&m.Ram, &m.Swap}[k] }
		bad := func(what string, e func(p *impl.Pages)) {
			list = append(list, broken(name+": "+what, func(m *impl.Mem) { e(of(m)) }))
		}
		bad("no places", func(p *impl.Pages) { *p = impl.Pages{} })
		bad("eleven places", func(p *impl.Pages) { p.Text, p.Refs = p.Text[:11], p.Refs[:11] })
		bad("thirteen places", func(p *impl.Pages) { p.Text, p.Refs = append(p.Text, ""), append(p.Refs, 0) })
		bad("a text less", func(p *impl.Pages) { p.Text = p.Text[:11] })
		bad("a number less", func(p *impl.Pages) { p.Refs = p.Refs[:11] })
		bad("a free place with a text", func(p *impl.Pages) { p.Text[11] = "abcd" })
		bad("a place that none tells", func(p *impl.Pages) { p.Text[11], p.Refs[11] = "abcd", 1 })
		bad("-1 for a free place", func(p *impl.Pages) { p.Refs[11] = -1 })
		for at, refs := range of(pointTo(baseMem())).Refs {
			if refs == 0 {
				continue
			}
			bad(fmt.Sprintf("place %d without a text", at), func(p *impl.Pages) { p.Text[at] = "" })
			bad(fmt.Sprintf("place %d with a byte less", at), func(p *impl.Pages) { p.Text[at] = "abc" })
			bad(fmt.Sprintf("place %d told once more", at), func(p *impl.Pages) { p.Refs[at]-- })
			bad(fmt.Sprintf("place %d told once less", at), func(p *impl.Pages) { p.Refs[at]++ })
			bad(fmt.Sprintf("place %d free and told", at), func(p *impl.Pages) { p.Refs[at], p.Text[at] = 0, "" })
		}
	}
	return list
}

func pointTo(m impl.Mem) *impl.Mem {
	return &m
}

func invalidSpaces() []namedMem {
	list := []namedMem{
		broken("no spaces", func(m *impl.Mem) { *m = memOf(0); m.Spaces = nil }),
		broken("four spaces", func(m *impl.Mem) { m.Spaces = m.Spaces[:4] }),
		broken("six spaces", func(m *impl.Mem) { m.Spaces = append(m.Spaces, impl.Space{}) }),
		broken("not live, with an area", areas(4, writable(0, 1))),
		broken("not live, with zero slots", func(m *impl.Mem) { m.Spaces[4].Slots = make([]impl.Slot, 16) }),
		broken("not live, with a zero slot", func(m *impl.Mem) { m.Spaces[2].Slots = make([]impl.Slot, 1) }),
		broken("not live any more, with all", func(m *impl.Mem) { m.Spaces[0].Live = false }),
		broken("live, without slots", func(m *impl.Mem) { m.Spaces[2].Live = true }),
		broken("fifteen slots", func(m *impl.Mem) { m.Spaces[0].Slots = m.Spaces[0].Slots[:15] }),
		broken("seventeen slots", func(m *impl.Mem) { m.Spaces[0].Slots = append(m.Spaces[0].Slots, impl.Slot{}) }),
	}
	for _, x := range invalidAreas() {
		list = append(list, namedMem{"areas: " + x.name, memOf(0, liveSpace(x.list, nil))})
		list = append(list, namedMem{"areas of the last one: " + x.name, memOf(0, impl.Space{}, impl.Space{}, impl.Space{}, impl.Space{}, liveSpace(x.list, nil))})
	}
	return list
}

func invalidSlots() []namedMem {
	list := []namedMem{}
	bad := func(name string, edits ...memEdit) {
		list = append(list, namedMem{"slots: " + name, edited(baseMem(), edits...)})
	}
	slot := func(who, page int, k impl.Slot) memEdit {
		return func(m *impl.Mem) { m.Spaces[who].Slots[page] = k }
	}
	bad("nowhere, at a place", slot(1, 0, impl.Slot{At: 1}))
	bad("nowhere, with Own", slot(1, 0, impl.Slot{Own: true}))
	bad("nowhere, and Used", slot(1, 0, impl.Slot{Used: true}))
	bad("nowhere in a Shared area, with Own", slot(1, 8, impl.Slot{Own: true}))
	for _, kind := range []int{math.MinInt, -1, 3, 4, 257, math.MaxInt} {
		bad(fmt.Sprintf("kind %d", kind), slot(1, 0, impl.Slot{Kind: kind}))
		bad(fmt.Sprintf("kind %d, with Own", kind), slot(1, 0, impl.Slot{Kind: kind, At: 1, Own: true}))
	}
	for _, at := range []int{math.MinInt, -1, 12, 13, math.MaxInt} {
		bad(fmt.Sprintf("place %d of memory", at), slot(1, 0, impl.Slot{Kind: 1, At: at, Own: true}))
		bad(fmt.Sprintf("place %d of swap", at), slot(1, 0, impl.Slot{Kind: 2, At: at, Own: true}))
	}
	bad("in no area, in memory", put(0, 4, "f9o"), ram(9, "wxyz"))
	bad("in no area, without Own", put(0, 15, "f1"))
	bad("in no area, in swap", put(0, 5, "s9"), swap(9, "wxyz"))
	bad("in an area that was cut", areas(0, writable(0, 4), shared(6, 1)))
	bad("Shared, without Own", put(0, 8, "f9"), ram(9, "wxyz"))
	bad("Shared, without Own, in swap", put(0, 8, "s9u"), swap(9, "wxyz"))
	bad("Shared, without Own in one of two", put(1, 6, "f4"))
	bad("both with Own", put(0, 1, "f1o"), put(1, 1, "f1o"))
	bad("the first one with Own", put(0, 1, "f1o"))
	bad("the second one with Own", put(1, 1, "f1o"))
	bad("one with Own, in swap", put(1, 2, "s2o"))
	bad("the third one with Own", put(1, 0, "f1o"))
	bad("twice with Own in a space", put(0, 3, "f0o"))
	bad("twice in a space, once with Own", put(0, 3, "f0"))
	bad("Shared and private, without Own", put(1, 0, "f4"))
	bad("Shared and private, with Own", put(1, 0, "f4o"))
	bad("private and Shared, in swap", put(0, 3, "s5"))
	bad("private, and Shared with Own", put(0, 8, "f1o"))
	bad("a free place of memory", put(0, 3, "f11o"))
	bad("a free place of swap", put(0, 3, "s11"))
	return list
}

// memIsValid tells, without the program, whether memory is valid.
func memIsValid(m impl.Mem) bool {
	if len(m.Spaces) != 5 || m.Hand < 0 || m.Hand > 11 {
		return false
	}
	for _, p := range []impl.Pages{m.Ram, m.Swap} {
		if len(p.Text) != 12 || len(p.Refs) != 12 {
			return false
		}
		for at, n := range p.Refs {
			if n < 0 || n > 99 || n == 0 && p.Text[at] != "" || n > 0 && len(p.Text[at]) != 4 {
				return false
			}
		}
	}
	for _, s := range m.Spaces {
		if s.Live && !spaceIsValid(s) || !s.Live && len(s.Areas)+len(s.Slots) > 0 {
			return false
		}
	}
	counted := cloneMem(m)
	recount(&counted)
	return slices.Equal(counted.Ram.Refs, m.Ram.Refs) && slices.Equal(counted.Swap.Refs, m.Swap.Refs) && ownIsValid(m)
}

func spaceIsValid(s impl.Space) bool {
	from := 0
	for _, a := range s.Areas {
		if a.Many < 1 || a.Many > 16 || a.From < from || a.From > 16-a.Many {
			return false
		}
		from = a.From + a.Many
	}
	if len(s.Areas) > 6 || len(s.Slots) != 16 {
		return false
	}
	for page, k := range s.Slots {
		a, ok := areaOf(s, page)
		switch {
		case k.Kind == 0 || !ok:
			if k != (impl.Slot{}) {
				return false
			}
		case k.Kind != 1 && k.Kind != 2, k.At < 0, k.At > 11, a.Shared && !k.Own:
			return false
		}
	}
	return true
}

// toldSlot is a slot of a page that is somewhere.
type toldSlot struct {
	slot      impl.Slot
	who, page int
	shared    bool
}

func toldSlots(m impl.Mem) []toldSlot {
	list := []toldSlot{}
	for who, s := range m.Spaces {
		for page, k := range s.Slots {
			if k.Kind != 0 {
				a, _ := areaOf(s, page)
				list = append(list, toldSlot{k, who, page, a.Shared})
			}
		}
	}
	return list
}

func (x toldSlot) tells(y toldSlot) bool {
	return x.slot.Kind == y.slot.Kind && x.slot.At == y.slot.At
}

// ownIsValid holds each slot that has Own against each other one.
func ownIsValid(m impl.Mem) bool {
	list := toldSlots(m)
	for i, x := range list {
		for j, y := range list {
			if i != j && x.tells(y) && x.slot.Own && !(x.shared && y.shared) {
				return false
			}
		}
	}
	return true
}

// areaOf finds the area of a space that has a page, without the program.
func areaOf(s impl.Space, page int) (impl.Area, bool) {
	for _, a := range s.Areas {
		if page >= a.From && page < a.From+a.Many {
			return a, true
		}
	}
	return impl.Area{}, false
}

func isLive(m impl.Mem, who int) bool {
	return who >= 0 && who < len(m.Spaces) && m.Spaces[who].Live
}

func firstDead(m impl.Mem) int {
	return slices.IndexFunc(m.Spaces, func(s impl.Space) bool { return !s.Live })
}

// placesTaken counts the places of memory and of swap that are not free.
func placesTaken(m impl.Mem) int {
	return 24 - countFree(m.Ram) - countFree(m.Swap)
}

func cloneMem(m impl.Mem) impl.Mem {
	n := impl.Mem{Ram: clonePages(m.Ram), Swap: clonePages(m.Swap), Spaces: slices.Clone(m.Spaces), Hand: m.Hand}
	for who, s := range n.Spaces {
		n.Spaces[who].Areas, n.Spaces[who].Slots = slices.Clone(s.Areas), slices.Clone(s.Slots)
	}
	return n
}

func sameMem(a, b impl.Mem) bool {
	return samePages(a.Ram, b.Ram) && samePages(a.Swap, b.Swap) && a.Hand == b.Hand && slices.EqualFunc(a.Spaces, b.Spaces, func(x, y impl.Space) bool {
		return x.Live == y.Live && slices.Equal(x.Areas, y.Areas) && slices.Equal(x.Slots, y.Slots)
	})
}

func wantMem(t *testing.T, what string, got, want impl.Mem) {
	t.Helper()
	if !sameMem(got, want) {
		t.Fatalf("%s:\n got %s\nwant %s", what, memText(got), memText(want))
	}
}

// wantValid checks memory by MemOk, by the tests' own reading, and by the number of slots that tell places.
func wantValid(t *testing.T, what string, m impl.Mem) {
	t.Helper()
	if told := len(toldSlots(m)); !impl.MemOk(m) || !memIsValid(m) || countRefs(m.Ram)+countRefs(m.Swap) != told {
		t.Fatalf("%s: MemOk %v, %d slots tell places: %s", what, impl.MemOk(m), told, memText(m))
	}
}

// memText tells memory in the words of slotOf.
func memText(m impl.Mem) string {
	out := fmt.Sprintf("Hand %d, Ram %q %v, Swap %q %v", m.Hand, m.Ram.Text, m.Ram.Refs, m.Swap.Text, m.Swap.Refs)
	for who, s := range m.Spaces {
		if !s.Live && len(s.Areas)+len(s.Slots) == 0 {
			continue
		}
		out += fmt.Sprintf("\n  space %d, live %v, %v", who, s.Live, s.Areas)
		for page, k := range s.Slots {
			if k != (impl.Slot{}) {
				out += fmt.Sprintf(" %d:%v", page, k)
			}
		}
	}
	return out
}

// whosToTry has each space that there is, and numbers that are none.
func whosToTry() []int {
	return []int{math.MinInt, math.MinInt32, -5, -1, 0, 1, 2, 3, 4, 5, 6, 12, 16, 64, 256, math.MaxInt32, math.MaxInt - 1, math.MaxInt}
}

// noAddresses are numbers that are no addresses, also those whose rest by PageSize or page seems to be one.
func noAddresses() []int {
	return []int{math.MinInt, math.MinInt + 1, math.MinInt32, -64, -5, -4, -3, -2, -1, 64, 65, 67, 68, 100, 128, 256, 1 << 32, math.MaxInt32, math.MaxInt - 1, math.MaxInt}
}

// noBytes are numbers that are no bytes.
func noBytes() []int {
	return []int{math.MinInt, -256, -255, -1, 256, 257, 511, 1 << 32, math.MaxInt}
}
