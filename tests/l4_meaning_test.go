package tests

import (
	"fmt"
	"math/rand"
	"slices"
	"testing"

	"loop.example/quarterdeck/impl"
)

// allAddresses has each address that there is, and numbers that are none.
func allAddresses() []int {
	list := noAddresses()
	for addr := range 64 {
		list = append(list, addr)
	}
	return list
}

// wantNoMeaning checks that BytesOfMem fails with nothing.
func wantNoMeaning(t *testing.T, what string, m impl.Mem) {
	t.Helper()
	if b, ok := impl.BytesOfMem(m); ok || !sameViews(b, impl.Views{}) {
		t.Fatalf("%s: BytesOfMem is %v, %s", what, ok, viewsText(b))
	}
}

// Promise 19.
func TestBytesOfMemIsOfValidMemory(t *testing.T) {
	for _, x := range validMems() {
		wantValid(t, x.name, x.mem)
		wantMeans(t, x.name, x.mem, viewsOf(x.mem))
	}
	for _, x := range invalidMems() {
		if impl.MemOk(x.mem) {
			t.Errorf("%s: MemOk is true", x.name)
		}
		wantNoMeaning(t, x.name, x.mem)
	}
}

// Promise 19: also of valid memory in which one thing is another one.
func TestBytesOfMemOfChangedMemory(t *testing.T) {
	r, valid := rand.New(rand.NewSource(4)), 0
	for _, x := range validMems() {
		for range 100 {
			m := cloneMem(x.mem)
			changeMem(r, &m)
			if r.Intn(2) == 0 {
				recount(&m)
			}
			if !memIsValid(m) {
				wantNoMeaning(t, x.name+", changed", m)
				continue
			}
			valid++
			wantValid(t, x.name+", changed", m)
			wantMeans(t, x.name+", changed", m, viewsOf(m))
		}
	}
	if valid < 300 {
		t.Errorf("only %d were valid", valid)
	}
}

// Promise 20, by BytesOfMem.
func TestMemGetMeansTheSame(t *testing.T) {
	for _, x := range validMems() {
		was := mustMean(t, x.name, x.mem)
		for who := range 5 {
			for _, addr := range someAddresses() {
				what := fmt.Sprintf("%s: MemGet of %d of space %d", x.name, addr, who)
				m, b, code := impl.MemGet(x.mem, who, addr)
				if code == impl.MemBad {
					continue
				}
				wantMeans(t, what, m, was)
				if c, ok := impl.MemPeek(x.mem, who, addr); code == impl.MemFine && (c != b || !ok) {
					t.Fatalf("%s told %d, and MemPeek %d, %v", what, b, c, ok)
				}
			}
		}
	}
}

// Promise 21, by BytesSet.
func TestMemSetMeansBytesSet(t *testing.T) {
	for _, x := range validMems() {
		was := mustMean(t, x.name, x.mem)
		for who := range 5 {
			for k, addr := range append(someAddresses(), -1, 64) {
				b := []int{0, 255, 77, 128, -1, 256}[k%6]
				what := fmt.Sprintf("%s: MemSet of %d of space %d to %d", x.name, addr, who, b)
				m, code := impl.MemSet(x.mem, who, addr, b)
				then, need := impl.BytesSet(was, who, addr, b)
				if code != need && code != impl.MemFull {
					t.Fatalf("%s: code %d, and BytesSet %d", what, code, need)
				}
				switch code {
				case impl.MemFine:
					wantMeans(t, what, m, then)
				case impl.MemBad:
					wantMem(t, what, m, impl.Mem{})
				default:
					wantMem(t, what, m, x.mem)
				}
			}
		}
	}
}

// Promises 22 and 28: the bytes of BytesGet and of the texts are those of MemPeek.
func TestMemPeekIsBytesGet(t *testing.T) {
	for _, x := range validMems() {
		b := mustMean(t, x.name, x.mem)
		for _, who := range whosToTry() {
			for _, addr := range allAddresses() {
				what := fmt.Sprintf("%s: address %d of space %d", x.name, addr, who)
				peek, ok := impl.MemPeek(x.mem, who, addr)
				got, code := impl.BytesGet(b, who, addr)
				if ok != (code == impl.MemFine) || ok && peek != got || !ok && got != -1 {
					t.Fatalf("%s: MemPeek told %d, %v, and BytesGet %d, %d", what, peek, ok, got, code)
				}
				if ok && int(b.Spaces[who].Text[addr/4][addr%4]) != peek {
					t.Fatalf("%s: MemPeek told %d, and the text is %q", what, peek, b.Spaces[who].Text[addr/4])
				}
			}
		}
	}
}

// Promise 28: a meaning has five spaces, and of each what it has to have.
func TestBytesOfMemHasAllPages(t *testing.T) {
	for _, x := range validMems() {
		b := mustMean(t, x.name, x.mem)
		if len(b.Spaces) != 5 {
			t.Fatalf("%s: %d spaces", x.name, len(b.Spaces))
		}
		for who, s := range b.Spaces {
			what := fmt.Sprintf("%s: space %d", x.name, who)
			if !isLive(x.mem, who) {
				if !sameBytes(s, impl.BytesOf{}) {
					t.Fatalf("%s is not live: %s", what, viewsText(b))
				}
				continue
			}
			if !s.Live || len(s.Group) != 16 || len(s.Text) != 16 {
				t.Fatalf("%s: live %v, %d Groups, %d texts", what, s.Live, len(s.Group), len(s.Text))
			}
			wantAreas(t, what, s.Areas, x.mem.Spaces[who].Areas)
			for page, text := range s.Text {
				if _, ok := areaOf(x.mem.Spaces[who], page); ok != (len(text) == 4) || !ok && text != "" {
					t.Fatalf("%s: the text of page %d is %q", what, page, text)
				}
			}
		}
	}
}

// A Group is that of pages of Shared areas that tell one place, and is told by the first one of them.
func TestGroupsAreOfPagesThatTellOnePlace(t *testing.T) {
	for _, x := range validMems() {
		b, told := mustMean(t, x.name, x.mem), toldSlots(x.mem)
		want := map[bytesPage]int{}
		for k, y := range told {
			first := slices.IndexFunc(told, y.tells)
			if y.shared && (first < k || slices.IndexFunc(told[k+1:], y.tells) >= 0) {
				want[bytesPage{y.who, y.page}] = 1 + 16*told[first].who + told[first].page
			}
		}
		for who, s := range b.Spaces {
			for page, g := range s.Group {
				if g != want[bytesPage{who, page}] {
					t.Fatalf("%s: the Group of page %d of space %d is %d, want %d: %s", x.name, page, who, g, want[bytesPage{who, page}], memText(x.mem))
				}
			}
		}
	}
}

// Promise 29.
func TestBytesGetIsAByte(t *testing.T) {
	for _, x := range allViews() {
		for _, who := range whosToTry() {
			for _, addr := range allAddresses() {
				what := fmt.Sprintf("%s: BytesGet of %d of space %d", x.name, addr, who)
				got, code := impl.BytesGet(x.views, who, addr)
				if want, need := readBytes(x.views, who, addr); got != want || code != need {
					t.Fatalf("%s: %d, %d, want %d, %d", what, got, code, want, need)
				}
				if code == impl.MemFine && (got < 0 || got > 255) {
					t.Fatalf("%s: %d is no byte", what, got)
				}
			}
		}
	}
}

// Promise 30.
func TestBytesSetSetsAGroup(t *testing.T) {
	for _, x := range allViews() {
		for who := range max(5, len(x.views.Spaces)) {
			for k, addr := range someAddresses() {
				v := []int{0, 255, 77, 128}[k%4]
				what := fmt.Sprintf("%s: BytesSet of %d of space %d to %d", x.name, addr, who, v)
				got, code := impl.BytesSet(x.views, who, addr, v)
				want, need := writeBytes(x.views, who, addr, v)
				wantViewsCode(t, what, got, code, want, need)
				if code == impl.MemFine {
					wantJustGroup(t, what, x.views, got, bytesPage{who, addr / 4}, addr%4, v)
				}
			}
		}
	}
}

// wantJustGroup checks the byte in each page of the group of one, and that each other page is as it was.
func wantJustGroup(t *testing.T, what string, was, b impl.Views, at bytesPage, k, v int) {
	t.Helper()
	for who, s := range b.Spaces {
		for page, text := range s.Text {
			if inGroup(was, at.who, at.page, who, page) {
				if text != b.Spaces[at.who].Text[at.page] || int(text[k]) != v {
					t.Fatalf("%s: page %d of space %d is %q", what, page, who, text)
				}
			} else if text != was.Spaces[who].Text[page] {
				t.Fatalf("%s: page %d of space %d was %q and is %q", what, page, who, was.Spaces[who].Text[page], text)
			}
		}
	}
}

// Promise 30: what is not valid, or may not be, is told with nothing, or with what was.
func TestBytesSetOfWhatIsNotThere(t *testing.T) {
	for _, x := range allViews() {
		for _, who := range whosToTry() {
			for _, addr := range append(noAddresses(), 0, 6, 17, 31, 37, 48, 63) {
				for _, v := range append(noBytes(), 0, 255) {
					what := fmt.Sprintf("%s: BytesSet of %d of space %d to %d", x.name, addr, who, v)
					got, code := impl.BytesSet(x.views, who, addr, v)
					want, need := writeBytes(x.views, who, addr, v)
					wantViewsCode(t, what, got, code, want, need)
				}
			}
		}
	}
}

// Promise 31.
func TestBytesForkCopiesASpace(t *testing.T) {
	for _, x := range allViews() {
		for _, who := range append(whosToTry(), 7) {
			what := fmt.Sprintf("%s: BytesFork of space %d", x.name, who)
			got, ok := impl.BytesFork(x.views, who)
			child := firstDeadBytes(x.views)
			if !isLiveBytes(x.views, who) || child == -1 {
				if ok || !sameViews(got, impl.Views{}) {
					t.Fatalf("%s: %v, %s, want nothing and false", what, ok, viewsText(got))
				}
				continue
			}
			if !ok {
				t.Fatalf("%s failed: %s", what, viewsText(x.views))
			}
			wantViews(t, what, got, forkBytes(x.views, who))
			wantForked(t, what, x.views, got, who, child)
		}
	}
}

// wantForked checks what BytesFork promises, page by page.
func wantForked(t *testing.T, what string, was, b impl.Views, who, child int) {
	t.Helper()
	live := 0
	for other, s := range b.Spaces {
		if isLiveBytes(b, other) {
			live++
		}
		if isLiveBytes(was, other) {
			live--
		}
		if other == child {
			continue
		}
		if !slices.Equal(s.Text, was.Spaces[other].Text) || !slices.Equal(s.Areas, was.Spaces[other].Areas) {
			t.Fatalf("%s: space %d is another one: %s", what, other, viewsText(b))
		}
	}
	if live != 1 || !sameBytes(b.Spaces[who], b.Spaces[child]) {
		t.Fatalf("%s: %d spaces more are live: %s", what, live, viewsText(b))
	}
	for page, g := range b.Spaces[child].Group {
		if a, _ := areaOfBytes(b.Spaces[child], page); (g != 0) != a.Shared {
			t.Fatalf("%s: the Group of page %d is %d", what, page, g)
		}
	}
}

// Promise 26, by BytesFork.
func TestMemForkMeansBytesFork(t *testing.T) {
	for _, x := range validMems() {
		was := mustMean(t, x.name, x.mem)
		for _, who := range whosToTry() {
			what := fmt.Sprintf("%s: MemFork of space %d", x.name, who)
			m, _, ok := impl.MemFork(x.mem, who)
			then, can := impl.BytesFork(was, who)
			// Just memory may lack room.
			if can != (isLive(x.mem, who) && firstDead(x.mem) >= 0) || ok && !can {
				t.Fatalf("%s: %v, and BytesFork is %v", what, ok, can)
			}
			if !ok {
				continue
			}
			wantMeans(t, what, m, then)
			for page, k := range x.mem.Spaces[who].Slots {
				if a, _ := areaOf(x.mem.Spaces[who], page); !a.Shared && k.Kind == 0 && m.Spaces[who].Slots[page].Kind != 0 {
					t.Fatalf("%s: page %d took a place", what, page)
				}
			}
			if n := placesTaken(m) - placesTaken(x.mem); n != nowhereShared(x.mem, who) {
				t.Fatalf("%s: it took %d places", what, n)
			}
		}
	}
}

// Promise 32.
func TestBytesSameOfTwo(t *testing.T) {
	list, same := allViews(), 0
	for _, x := range list {
		if !impl.BytesSame(x.views, x.views) || !impl.BytesSame(x.views, cloneViews(x.views)) {
			t.Fatalf("%s is not the same as itself", x.name)
		}
		for _, y := range list {
			want := sameViews(x.views, y.views)
			if impl.BytesSame(x.views, y.views) != want || impl.BytesSame(y.views, x.views) != want {
				t.Fatalf("BytesSame of %s and %s is not %v", x.name, y.name, want)
			}
			if want {
				same++
			}
		}
	}
	if same <= len(list) {
		t.Errorf("%d meanings of %d were the same", same, len(list))
	}
}

// Promise 32: each thing that is another one is seen, from either side.
func TestBytesSameOfChangedMeanings(t *testing.T) {
	for _, e := range []struct {
		name string
		edit viewsEdit
	}{
		{"a space less", func(b *impl.Views) { b.Spaces = b.Spaces[:4] }},
		{"a space more", func(b *impl.Views) { b.Spaces = append(b.Spaces, impl.BytesOf{}) }},
		{"no spaces", func(b *impl.Views) { b.Spaces = nil }},
		{"live", func(b *impl.Views) { b.Spaces[1].Live = true }},
		{"not live", func(b *impl.Views) { b.Spaces[0].Live = false }},
		{"an area less", func(b *impl.Views) { b.Spaces[2].Areas = b.Spaces[2].Areas[:3] }},
		{"an area more", func(b *impl.Views) { b.Spaces[1].Areas = []impl.Area{writable(0, 1)} }},
		{"From", func(b *impl.Views) { b.Spaces[0].Areas[0].From-- }},
		{"Many", func(b *impl.Views) { b.Spaces[0].Areas[2].Many++ }},
		{"Write", func(b *impl.Views) { b.Spaces[3].Areas[0].Write = false }},
		{"Shared", func(b *impl.Views) { b.Spaces[3].Areas[0].Shared = false }},
		{"a Group", groups(3, 7, 15)},
		{"no Group", groups(2, 0, 4)},
		{"Groups less", func(b *impl.Views) { b.Spaces[3].Group = b.Spaces[3].Group[:15] }},
		{"a byte of the last page", text(3, 15, "end,")},
		{"the last byte of a text", text(0, 1, "pri")},
		{"a text of a page in no area", text(0, 0, "x")},
		{"texts less", func(b *impl.Views) { b.Spaces[3].Text = b.Spaces[3].Text[:15] }},
		{"a text of a space that is not live", func(b *impl.Views) { b.Spaces[4].Text = []string{""} }},
		{"two spaces in another order", func(b *impl.Views) { b.Spaces[0], b.Spaces[1] = b.Spaces[1], b.Spaces[0] }},
	} {
		b := changed(fiveBytes(), e.edit)
		if impl.BytesSame(fiveBytes(), b) || impl.BytesSame(b, fiveBytes()) || !impl.BytesSame(b, b) {
			t.Errorf("BytesSame passed over %s", e.name)
		}
	}
	none := meaning(impl.BytesOf{Areas: []impl.Area{}, Group: []int{}, Text: []string{}})
	if !impl.BytesSame(none, meaning()) || !impl.BytesSame(meaning(), none) || !impl.BytesSame(impl.Views{}, impl.Views{Spaces: []impl.BytesOf{}}) {
		t.Errorf("BytesSame told empty lists and none apart")
	}
}
