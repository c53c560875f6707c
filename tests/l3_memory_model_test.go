package tests

import (
	"fmt"
	"math/rand"
	"strings"
	"testing"

	"loop.example/quarterdeck/impl"
)

// spaceModel is what a space means: areas, the bytes of its pages, and of each page which group of pages it is the same bytes with, 0 if with none.
type spaceModel struct {
	live  bool
	areas pageModel
	text  [16][4]byte
	group [16]int
}

// memModel is what memory means, without any places; two are alike if they are equal.
type memModel [5]spaceModel

// meaningOf reads what valid memory means from its slots, without the program.
func meaningOf(m impl.Mem) memModel {
	out := memModel{}
	for who, s := range m.Spaces {
		out[who].live = s.Live
		out[who].areas = modelOf(s.Areas)
	}
	for _, x := range toldSlots(m) {
		text := m.Ram.Text[x.slot.At]
		if x.slot.Kind == 2 {
			text = m.Swap.Text[x.slot.At]
		}
		copy(out[x.who].text[x.page][:], text)
		if x.shared {
			out[x.who].group[x.page] = x.slot.Kind*100 + x.slot.At
		}
	}
	return out.regrouped()
}

// regrouped tells each group by its first page, and none of a page alone.
func (m memModel) regrouped() memModel {
	many, first := map[int]int{}, map[int]int{}
	for who := range m {
		for page, g := range m[who].group {
			if many[g] == 0 {
				first[g] = 1 + 16*who + page
			}
			many[g]++
		}
	}
	for who := range m {
		for page, g := range m[who].group {
			if g == 0 || many[g] == 1 {
				m[who].group[page] = 0
			} else {
				m[who].group[page] = first[g]
			}
		}
	}
	return m
}

// set is the meaning behind a byte was written, in all pages of its group.
func (m memModel) set(who, addr, b int) memModel {
	g := m[who].group[addr/4]
	m[who].text[addr/4][addr%4] = byte(b)
	for other := range m {
		for page := range 16 {
			if g != 0 && m[other].group[page] == g {
				m[other].text[page][addr%4] = byte(b)
			}
		}
	}
	return m
}

// fork is the meaning behind a space was forked; all its Shared pages have a group then.
func (m memModel) fork(who, child int) memModel {
	for page, x := range m[who].areas {
		if x.shared && m[who].group[page] == 0 {
			m[who].group[page] = 1000 + page
		}
	}
	m[child] = m[who]
	return m.regrouped()
}

// cut is the meaning behind pages of a space were cut.
func (m memModel) cut(who int, pages impl.Area, left []impl.Area) memModel {
	m[who].areas = modelOf(left)
	for page := range 16 {
		if inRange(page, pages) {
			m[who].text[page] = [4]byte{}
			m[who].group[page] = 0
		}
	}
	return m.regrouped()
}

// drop is the meaning behind a space was dropped.
func (m memModel) drop(who int) memModel {
	m[who] = spaceModel{}
	return m.regrouped()
}

// peek is the byte of an address, and whether there is one.
func (m memModel) peek(who, addr int) (int, bool) {
	if who < 0 || who > 4 || addr < 0 || addr > 63 || m[who].areas[addr/4].number == 0 {
		return 0, false
	}
	return int(m[who].text[addr/4][addr%4]), true
}

// wantPeeks checks MemPeek of each address of each space.
func wantPeeks(t *testing.T, what string, m impl.Mem, want memModel) {
	t.Helper()
	for who := range 5 {
		for addr := range 64 {
			b, ok := impl.MemPeek(m, who, addr)
			if c, is := want.peek(who, addr); b != c || ok != is {
				t.Fatalf("%s: MemPeek of %d of space %d told %d, %v, want %d, %v: %s", what, addr, who, b, ok, c, is, memText(m))
			}
		}
	}
}

// wantMeaning checks that memory is valid and means something.
func wantMeaning(t *testing.T, what string, m impl.Mem, want memModel) {
	t.Helper()
	wantValid(t, what, m)
	if got := meaningOf(m); got != want {
		t.Fatalf("%s: it means\n%v\nwant\n%v", what, got, want)
	}
}

// getCode is the code that MemGet has to return, by counting free places.
func getCode(m impl.Mem, who, addr int) int {
	if !isLive(m, who) || addr < 0 || addr > 63 {
		return impl.MemBad
	}
	if _, ok := areaOf(m.Spaces[who], addr/4); !ok {
		return impl.MemNone
	}
	if m.Spaces[who].Slots[addr/4].Kind != 1 && countFree(m.Ram)+countFree(m.Swap) == 0 {
		return impl.MemFull
	}
	return impl.MemFine
}

// setCode is the code that MemSet of a byte has to return, by counting free places.
func setCode(m impl.Mem, who, addr int) int {
	code := getCode(m, who, addr)
	if code == impl.MemBad || code == impl.MemNone {
		return code
	}
	if a, _ := areaOf(m.Spaces[who], addr/4); !a.Write {
		return impl.MemRead
	}
	// A page that comes from swap frees a place there, and one that was nowhere has Own: just one in memory may lack room for its copy.
	k := m.Spaces[who].Slots[addr/4]
	if k.Kind == 1 && !k.Own && m.Ram.Refs[k.At] > 1 && countFree(m.Ram)+countFree(m.Swap) == 0 {
		return impl.MemFull
	}
	return code
}

// memWalk is memory that calls lead to, and what it has to mean. A full one gives nothing back, and so runs out of room.
type memWalk struct {
	r    *rand.Rand
	full bool
	mem  impl.Mem
	want memModel
	who  int
	addr int
	did  string
	code int
	need int
}

func newWalk(seed int64) *memWalk {
	return &memWalk{r: rand.New(rand.NewSource(seed)), full: seed%2 == 1, mem: impl.MemNew()}
}

// step makes one call, tells what it was, its code and the one that it needs, and what memory has to mean then.
func (w *memWalk) step() {
	who, b := w.r.Intn(5), w.r.Intn(256)
	addr := w.address(who)
	w.who, w.addr = who, addr
	pages := area(addr/4, 1+w.r.Intn(min(6, 16-addr/4)))
	n := w.r.Intn(100)
	if w.full && (n < 6 && firstDead(w.mem) > 1 || n >= 16 && n < 19 || n >= 20 && n < 26) {
		n = 99
	}
	switch {
	case n < 6:
		w.makeSpace()
	case n < 16:
		pages.Write, pages.Shared = w.r.Intn(5) > 0, w.r.Intn(3) == 0
		w.mapArea(who, pages)
	case n < 19:
		w.cut(who, pages)
	case n < 24:
		w.fork(who)
	case n < 26 && w.r.Intn(2) == 0:
		w.drop(who)
	case n < 55:
		w.did, w.need = fmt.Sprintf("MemGet(%d, %d)", who, addr), getCode(w.mem, who, addr)
		m, got, code := impl.MemGet(w.mem, who, addr)
		if b, ok := w.want.peek(who, addr); ok && code == impl.MemFine && got != b {
			w.did += fmt.Sprintf(" told %d, want %d", got, b)
			code = -1
		}
		w.goTo(m, code, w.want)
	default:
		w.did, w.need = fmt.Sprintf("MemSet(%d, %d, %d)", who, addr, b), setCode(w.mem, who, addr)
		want := w.want
		if w.need == impl.MemFine {
			want = want.set(who, addr, b)
		}
		m, code := impl.MemSet(w.mem, who, addr, b)
		w.goTo(m, code, want)
	}
}

// address is mostly one in an area, as far as a space has any.
func (w *memWalk) address(who int) int {
	list := w.mem.Spaces[who].Areas
	if len(list) == 0 || w.r.Intn(4) == 0 {
		return w.r.Intn(64)
	}
	a := list[w.r.Intn(len(list))]
	return 4*a.From + w.r.Intn(4*a.Many)
}

// goTo goes to the memory that a call returned, unless that is nothing.
func (w *memWalk) goTo(m impl.Mem, code int, want memModel) {
	w.code = code
	if code != impl.MemBad {
		w.mem, w.want = m, want
	}
}

func fineIf(ok bool) int {
	if ok {
		return impl.MemFine
	}
	return impl.MemBad
}

func (w *memWalk) makeSpace() {
	at, want := firstDead(w.mem), w.want
	w.did, w.need = "MemMake", fineIf(at >= 0)
	if at >= 0 {
		want[at].live = true
	}
	m, who, ok := impl.MemMake(w.mem)
	w.goTo(m, fineIf(ok && who == at), want)
}

func (w *memWalk) mapArea(who int, a impl.Area) {
	w.did, w.need = fmt.Sprintf("MemMap(%d, %v)", who, a), impl.MemBad
	want := w.want
	if isLive(w.mem, who) {
		w.need = impl.MemFull
		if list, ok := impl.AreasAdd(w.mem.Spaces[who].Areas, a); ok {
			w.need = impl.MemFine
			want[who].areas = modelOf(list)
		}
	}
	m, code := impl.MemMap(w.mem, who, a)
	w.goTo(m, code, want)
}

func (w *memWalk) cut(who int, pages impl.Area) {
	w.did, w.need = fmt.Sprintf("MemCut(%d, %v)", who, pages), impl.MemBad
	want := w.want
	if isLive(w.mem, who) {
		w.need = impl.MemFull
		if list, ok := impl.AreasCut(w.mem.Spaces[who].Areas, pages.From, pages.Many); ok {
			w.need = impl.MemFine
			want = want.cut(who, pages, list)
		}
	}
	m, code := impl.MemCut(w.mem, who, pages.From, pages.Many)
	w.goTo(m, code, want)
}

func (w *memWalk) fork(who int) {
	child, want := firstDead(w.mem), w.want
	w.did, w.need = fmt.Sprintf("MemFork(%d)", who), impl.MemBad
	if isLive(w.mem, who) && child >= 0 && nowhereShared(w.mem, who) <= countFree(w.mem.Ram)+countFree(w.mem.Swap) {
		w.need = impl.MemFine
		want = want.fork(who, child)
	}
	m, at, ok := impl.MemFork(w.mem, who)
	w.goTo(m, fineIf(ok && at == child), want)
}

func (w *memWalk) drop(who int) {
	w.did, w.need = fmt.Sprintf("MemDrop(%d)", who), fineIf(isLive(w.mem, who))
	want := w.want
	if isLive(w.mem, who) {
		want = want.drop(who)
	}
	m, ok := impl.MemDrop(w.mem, who)
	w.goTo(m, fineIf(ok), want)
}

// nowhereShared counts the pages of Shared areas of a space that are nowhere yet.
func nowhereShared(m impl.Mem, who int) int {
	n := 0
	for page, k := range m.Spaces[who].Slots {
		if a, _ := areaOf(m.Spaces[who], page); a.Shared && k.Kind == 0 {
			n++
		}
	}
	return n
}

// walkedMems are some of those that a walk leads to, early ones and late ones.
func walkedMems(seed int64) []namedMem {
	w, list := newWalk(seed), []namedMem{}
	for n := range 400 {
		w.step()
		if n == 40 || n == 100 || n == 220 || n == 399 {
			list = append(list, namedMem{fmt.Sprintf("walk %d, step %d", seed, n), w.mem})
		}
	}
	return list
}

// Promises 19 to 27 along walks: each call returns the code, and leads to memory that is valid and means what it has to.
func TestMemWalks(t *testing.T) {
	seen := map[string]int{}
	for seed := range 40 {
		w := newWalk(int64(seed))
		for n := range 400 {
			was := w.mem
			w.step()
			what := fmt.Sprintf("walk %d, step %d, %s", seed, n, w.did)
			if w.code != w.need {
				t.Fatalf("%s: code %d, want %d, of %s", what, w.code, w.need, memText(was))
			}
			if w.code != impl.MemFine {
				wantMem(t, what+" that failed", w.mem, was)
			}
			wantMeaning(t, what, w.mem, w.want)
			if n%40 == 39 {
				wantPeeks(t, what, w.mem, w.want)
			}
			seen[fmt.Sprintf("%.6s %d", w.did, w.code)]++
			if w.copyFailed(was) {
				seen["no room for a copy"]++
			}
		}
	}
	wantSeen(t, seen)
}

// copyFailed reports whether the last step was a write to a page in memory that found no room, which then is its copy's.
func (w *memWalk) copyFailed(was impl.Mem) bool {
	return strings.HasPrefix(w.did, "MemSet") && w.code == impl.MemFull && was.Spaces[w.who].Slots[w.addr/4].Kind == 1
}

// wantSeen checks that walks met each code of each call.
func wantSeen(t *testing.T, seen map[string]int) {
	t.Helper()
	for _, x := range []string{"MemMak 0", "MemMak 1", "MemMap 0", "MemMap 1", "MemMap 4", "MemCut 0", "MemCut 1", "MemFor 0", "MemFor 1", "MemDro 0", "MemDro 1",
		"MemGet 0", "MemGet 1", "MemGet 2", "MemGet 4", "MemSet 0", "MemSet 1", "MemSet 2", "MemSet 3", "MemSet 4", "no room for a copy"} {
		if seen[x] < 5 {
			t.Errorf("the walks met %s %d times: %v", x, seen[x], seen)
		}
	}
}
