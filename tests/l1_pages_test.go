package tests

import (
	"fmt"
	"math"
	"testing"

	"loop.example/quarterdeck/impl"
)

// Promise 1.
func TestPagesNewIsValidAndFree(t *testing.T) {
	for n := 1; n <= 12; n++ {
		p, ok := impl.PagesNew(n)
		if !ok || !impl.PagesOk(p) || impl.PagesRoom(p) != n {
			t.Errorf("PagesNew(%d): %v, valid %v, room %d", n, ok, impl.PagesOk(p), impl.PagesRoom(p))
		}
		wantPages(t, fmt.Sprintf("PagesNew(%d)", n), p, impl.Pages{Text: make([]string, n), Refs: make([]int, n)})
		for at := range n {
			if s, ok := impl.PagesGet(p, at); ok || s != "" {
				t.Errorf("place %d of PagesNew(%d) is %q, %v", at, n, s, ok)
			}
		}
	}
}

func TestPagesNewOfOtherNumbersFails(t *testing.T) {
	for _, n := range []int{math.MinInt, -12, -1, 0, 13, 14, 24, 100, math.MaxInt} {
		p, ok := impl.PagesNew(n)
		wantNoPages(t, fmt.Sprintf("PagesNew(%d)", n), p, ok)
	}
}

// Promise 2.
func TestPagesOkIsThatThereIsRoomOrNone(t *testing.T) {
	for _, x := range validPages() {
		if !impl.PagesOk(x.pages) || impl.PagesRoom(x.pages) != countFree(x.pages) {
			t.Errorf("%s %#v: valid %v, room %d", x.name, x.pages, impl.PagesOk(x.pages), impl.PagesRoom(x.pages))
		}
	}
	for _, x := range invalidPages() {
		if impl.PagesOk(x.pages) || impl.PagesRoom(x.pages) != -1 {
			t.Errorf("%s: valid %v, room %d", x.name, impl.PagesOk(x.pages), impl.PagesRoom(x.pages))
		}
	}
}

// Promise 3.
func TestPagesTakeFailsJustWithoutRoom(t *testing.T) {
	for _, x := range validPages() {
		p, at, ok := impl.PagesTake(x.pages, "wxyz")
		if ok == (impl.PagesRoom(x.pages) == 0) {
			t.Errorf("%s: PagesTake %v with room for %d", x.name, ok, impl.PagesRoom(x.pages))
		}
		if firstFree(x.pages) >= 0 {
			continue
		}
		wantNoPages(t, x.name, p, ok)
		if at != -1 {
			t.Errorf("%s: PagesTake told the place %d of none", x.name, at)
		}
	}
}

// Promise 4.
func TestPagesTakeThenGetThenGive(t *testing.T) {
	for _, x := range validPages() {
		free := firstFree(x.pages)
		if free < 0 {
			continue
		}
		for _, text := range []string{"wxyz", "abcd", "\x00\x00\x00\x00", "\xff\xfe\x80\x00", "éé"} {
			p, at, ok := impl.PagesTake(x.pages, text)
			want := clonePages(x.pages)
			want.Text[free], want.Refs[free] = text, 1
			if !ok || at != free {
				t.Fatalf("%s: PagesTake told %d, %v, want %d", x.name, at, ok, free)
			}
			wantPages(t, x.name, p, want)
			if s, ok := impl.PagesGet(p, at); !ok || s != text {
				t.Errorf("%s: behind PagesTake of %q PagesGet told %q, %v", x.name, text, s, ok)
			}
			back, ok := impl.PagesGive(p, at)
			if !ok {
				t.Errorf("%s: PagesGive behind PagesTake failed", x.name)
			}
			wantPages(t, x.name, back, x.pages)
		}
	}
}

func TestPagesTakeOfOtherTextsFails(t *testing.T) {
	for _, x := range validPages() {
		for _, text := range textsToTry() {
			if len(text) == 4 {
				continue
			}
			p, at, ok := impl.PagesTake(x.pages, text)
			wantNoPages(t, x.name, p, ok)
			if at != -1 {
				t.Errorf("%s: PagesTake of %q told %d", x.name, text, at)
			}
		}
	}
}

// Promise 5.
func TestPagesKeepThenGive(t *testing.T) {
	for _, x := range validPages() {
		for _, at := range placesToTry() {
			p, ok := impl.PagesKeep(x.pages, at)
			if !isPlace(x.pages, at) || x.pages.Refs[at] == 99 {
				wantNoPages(t, fmt.Sprintf("%s: PagesKeep of %d", x.name, at), p, ok)
				continue
			}
			want := clonePages(x.pages)
			want.Refs[at]++
			if !ok {
				t.Fatalf("%s: PagesKeep of %d failed", x.name, at)
			}
			wantPages(t, x.name, p, want)
			back, ok := impl.PagesGive(p, at)
			if !ok {
				t.Errorf("%s: PagesGive of %d failed", x.name, at)
			}
			wantPages(t, x.name, back, x.pages)
		}
	}
}

func TestPagesKeepUpTo99(t *testing.T) {
	p, _ := impl.PagesNew(2)
	p, at, ok := impl.PagesTake(p, "abcd")
	for n := 2; n <= 99; n++ {
		p, ok = impl.PagesKeep(p, at)
		if !ok || p.Refs[at] != n || !impl.PagesOk(p) {
			t.Fatalf("PagesKeep to %d: %v, %#v", n, ok, p)
		}
	}
	none, ok := impl.PagesKeep(p, at)
	wantNoPages(t, "PagesKeep of a place to which 99 refer", none, ok)
	for n := 98; n >= 0; n-- {
		p, ok = impl.PagesGive(p, at)
		if !ok || p.Refs[at] != n || !impl.PagesOk(p) {
			t.Fatalf("PagesGive to %d: %v, %#v", n, ok, p)
		}
	}
	wantPages(t, "behind all of PagesGive", p, impl.Pages{Text: []string{"", ""}, Refs: []int{0, 0}})
	none, ok = impl.PagesGive(p, at)
	wantNoPages(t, "PagesGive of a free place", none, ok)
}

// Promise 6.
func TestPagesGiveIsOneLess(t *testing.T) {
	for _, x := range validPages() {
		for _, at := range placesToTry() {
			p, ok := impl.PagesGive(x.pages, at)
			if !isPlace(x.pages, at) {
				wantNoPages(t, fmt.Sprintf("%s: PagesGive of %d", x.name, at), p, ok)
				continue
			}
			want := clonePages(x.pages)
			want.Refs[at]--
			last := want.Refs[at] == 0
			if last {
				want.Text[at] = ""
			}
			wantPages(t, x.name, p, want)
			if !ok || !impl.PagesOk(p) || countRefs(p) != countRefs(x.pages)-1 {
				t.Errorf("%s: PagesGive of %d: %v, %#v", x.name, at, ok, p)
			}
			if more := impl.PagesRoom(p) > impl.PagesRoom(x.pages); more != last {
				t.Errorf("%s: PagesGive of %d: more room %v, last one %v", x.name, at, more, last)
			}
		}
	}
}

// Promise 7.
func TestPagesGetHasPageSizeBytes(t *testing.T) {
	for _, x := range validPages() {
		for _, at := range placesToTry() {
			s, ok := impl.PagesGet(x.pages, at)
			if !isPlace(x.pages, at) {
				if ok || s != "" {
					t.Errorf("%s: PagesGet of %d told %q, %v", x.name, at, s, ok)
				}
				continue
			}
			if !ok || len(s) != impl.PageSize || s != x.pages.Text[at] {
				t.Errorf("%s: PagesGet of %d told %q, %v, want %q", x.name, at, s, ok, x.pages.Text[at])
			}
		}
	}
}

// Promise 8.
func TestPagesSetChangesJustOneByte(t *testing.T) {
	for _, x := range validPages() {
		for at := range x.pages.Refs {
			for k := range 4 {
				for b := range 256 {
					p, ok := impl.PagesSet(x.pages, at, k, b)
					if !isPlace(x.pages, at) {
						wantNoPages(t, x.name+": PagesSet of a free place", p, ok)
						continue
					}
					was := x.pages.Text[at]
					want := clonePages(x.pages)
					want.Text[at] = was[:k] + string([]byte{byte(b)}) + was[k+1:]
					if !ok || !impl.PagesOk(p) {
						t.Fatalf("%s: PagesSet(%d, %d, %d): %v, %#v", x.name, at, k, b, ok, p)
					}
					wantPages(t, x.name, p, want)
				}
			}
		}
	}
}

func TestPagesSetOfWhatWasThereChangesNothing(t *testing.T) {
	for _, x := range validPages() {
		for at := range x.pages.Refs {
			for k := range len(x.pages.Text[at]) {
				p, ok := impl.PagesSet(x.pages, at, k, int(x.pages.Text[at][k]))
				if !ok {
					t.Errorf("%s: PagesSet(%d, %d) failed", x.name, at, k)
				}
				wantPages(t, x.name, p, x.pages)
			}
		}
	}
}

func TestPagesSetOfNoByteFails(t *testing.T) {
	isByte := func(at, k, b int, p impl.Pages) bool {
		return isPlace(p, at) && k >= 0 && k <= 3 && b >= 0 && b <= 255
	}
	for _, x := range validPages() {
		for _, at := range placesToTry() {
			for _, k := range placesToTry() {
				for _, b := range bytesToTry() {
					if isByte(at, k, b, x.pages) {
						continue
					}
					if p, ok := impl.PagesSet(x.pages, at, k, b); ok || len(p.Text)+len(p.Refs) != 0 {
						t.Fatalf("%s: PagesSet(%d, %d, %d) told %#v, %v", x.name, at, k, b, p, ok)
					}
				}
			}
		}
	}
}

func TestPagesThatAreNotValidFail(t *testing.T) {
	for _, x := range invalidPages() {
		for _, text := range textsToTry() {
			p, at, ok := impl.PagesTake(x.pages, text)
			wantNoPages(t, x.name+": PagesTake", p, ok)
			if at != -1 {
				t.Errorf("%s: PagesTake told %d", x.name, at)
			}
		}
		for _, at := range placesToTry() {
			p, ok := impl.PagesKeep(x.pages, at)
			wantNoPages(t, x.name+": PagesKeep", p, ok)
			p, ok = impl.PagesGive(x.pages, at)
			wantNoPages(t, x.name+": PagesGive", p, ok)
			if s, ok := impl.PagesGet(x.pages, at); ok || s != "" {
				t.Errorf("%s: PagesGet of %d told %q, %v", x.name, at, s, ok)
			}
			for _, k := range placesToTry() {
				p, ok = impl.PagesSet(x.pages, at, k, 97)
				wantNoPages(t, x.name+": PagesSet", p, ok)
			}
		}
	}
}
