package tests

import (
	"fmt"
	"math/rand"
	"testing"

	"loop.example/quarterdeck/impl"
)

// fewAddresses has addresses of some pages, the first one and the last one of all.
func fewAddresses() []int {
	return []int{0, 2, 6, 11, 17, 26, 32, 39, 48, 53, 61, 63}
}

// wantOthersSame checks that each space of a meaning but some is as it was, Groups aside.
func wantOthersSame(t *testing.T, what string, was, b impl.Views, but ...int) {
	t.Helper()
	for _, who := range but {
		was, b = changed(was, bytesSpace(who, impl.BytesOf{})), changed(b, bytesSpace(who, impl.BytesOf{}))
	}
	for who := range was.Spaces {
		clear(was.Spaces[who].Group)
		clear(b.Spaces[who].Group)
	}
	wantViews(t, what+": the other spaces", b, was)
}

// mustPeek is a byte of memory that there is.
func mustPeek(t *testing.T, what string, m impl.Mem, who, addr int) int {
	t.Helper()
	b, ok := impl.MemPeek(m, who, addr)
	if !ok {
		t.Fatalf("%s: no byte %d of space %d: %s", what, addr, who, memText(m))
	}
	return b
}

// Promise 33.
func TestMemSetOfPrivatePagesIsSeenByNoOther(t *testing.T) {
	done := 0
	for _, x := range validMems() {
		was := mustMean(t, x.name, x.mem)
		for who, s := range x.mem.Spaces {
			for _, addr := range someAddresses() {
				if a, ok := areaOf(s, addr/4); !ok || a.Shared {
					continue
				}
				what := fmt.Sprintf("%s: MemSet of %d of space %d", x.name, addr, who)
				b := 255 - mustPeek(t, what, x.mem, who, addr)
				m, code := impl.MemSet(x.mem, who, addr, b)
				wantOthersSame(t, what, was, mustMean(t, what, m), who)
				if code == impl.MemFine {
					done++
				}
			}
		}
	}
	if done < 500 {
		t.Errorf("just %d bytes were written", done)
	}
}

// Promise 34.
func TestReadingKeepsTheMeaning(t *testing.T) {
	in, out := 0, 0
	for seed, x := range validMems() {
		r := rand.New(rand.NewSource(int64(seed)))
		was, m := mustMean(t, x.name, x.mem), x.mem
		for n := range 150 {
			who, addr := r.Intn(5), r.Intn(64)
			next, _, code := impl.MemGet(m, who, addr)
			if code == impl.MemBad {
				continue
			}
			if code == impl.MemFine && m.Spaces[who].Slots[addr/4].Kind == 2 {
				in++
			}
			if next.Hand != m.Hand {
				out++
			}
			m = next
			wantMeans(t, fmt.Sprintf("%s, read %d times", x.name, n+1), m, was)
		}
	}
	if in < 100 || out < 100 {
		t.Errorf("%d pages were brought in from swap, and %d put there", in, out)
	}
}

// Promise 35.
func TestForkedPagesAreSharedOrNot(t *testing.T) {
	apart, common := 0, 0
	for _, x := range validMems() {
		for who := range 5 {
			forked, child, ok := impl.MemFork(x.mem, who)
			if !ok {
				continue
			}
			for k, addr := range someAddresses() {
				by, other := who, child
				if k%2 == 0 {
					by, other = child, who
				}
				what := fmt.Sprintf("%s: space %d forked to %d, MemSet of %d by %d", x.name, who, child, addr, by)
				a, _ := areaOf(x.mem.Spaces[who], addr/4)
				was, _ := impl.MemPeek(x.mem, who, addr)
				b := 255 - was
				m, code := impl.MemSet(forked, by, addr, b)
				if code != impl.MemFine {
					continue
				}
				want := was
				if a.Shared {
					want = b
					common++
				} else {
					apart++
				}
				if got, seen := mustPeek(t, what, m, by, addr), mustPeek(t, what, m, other, addr); got != b || seen != want {
					t.Fatalf("%s: it reads %d, want %d, and the other one %d, want %d", what, got, b, seen, want)
				}
			}
		}
	}
	if apart < 100 || common < 100 {
		t.Errorf("%d private bytes were written, and %d Shared ones", apart, common)
	}
}

// Promise 36.
func TestForkAndDropLeaveTheMeaning(t *testing.T) {
	for _, x := range validMems() {
		was := mustMean(t, x.name, x.mem)
		for who := range 5 {
			forked, child, ok := impl.MemFork(x.mem, who)
			if !ok {
				continue
			}
			what := fmt.Sprintf("%s: space %d forked to %d, and that dropped", x.name, who, child)
			m, ok := impl.MemDrop(forked, child)
			if !ok {
				t.Fatalf("%s: MemDrop is false", what)
			}
			wantMeans(t, what, m, was)
			if n, need := placesTaken(m)-placesTaken(x.mem), nowhereShared(x.mem, who); n != need {
				t.Fatalf("%s: %d places more are used, want %d", what, n, need)
			}
		}
	}
}

// Promise 37.
func TestTheLastMemSetCounts(t *testing.T) {
	for _, x := range validMems() {
		for who := range 5 {
			for _, addr := range someAddresses() {
				what := fmt.Sprintf("%s: two MemSets of %d of space %d", x.name, addr, who)
				one, code := impl.MemSet(x.mem, who, addr, 200)
				alone, need := impl.MemSet(x.mem, who, addr, 7)
				if code != need {
					t.Fatalf("%s: codes %d and %d", what, code, need)
				}
				if code == impl.MemBad {
					continue
				}
				both, code := impl.MemSet(one, who, addr, 7)
				if code != need {
					t.Fatalf("%s: codes %d and %d", what, code, need)
				}
				wantMeans(t, what, both, mustMean(t, what, alone))
			}
		}
	}
}

// Promise 38, where there is room for both.
func TestMemSetsOfTwoAddressesInEitherOrder(t *testing.T) {
	done := 0
	for k, x := range validMems() {
		for one := range 5 {
			for _, a := range fewAddresses() {
				for n, b := range fewAddresses() {
					two := (one + k + n) % 5
					if one == two && a == b || !isLive(x.mem, one) || !isLive(x.mem, two) {
						continue
					}
					what := fmt.Sprintf("%s: MemSets of %d of space %d and %d of space %d", x.name, a, one, b, two)
					if setsInEitherOrder(t, what, x.mem, bytesPage{one, a}, bytesPage{two, b}) {
						done++
					}
				}
			}
		}
	}
	if done < 1000 {
		t.Errorf("just %d pairs of bytes were written", done)
	}
}

// setsInEitherOrder writes two addresses that are the same bytes at most by their pages, and reports whether both were written in both orders.
func setsInEitherOrder(t *testing.T, what string, m impl.Mem, x, y bytesPage) bool {
	t.Helper()
	if x.page%4 == y.page%4 && inGroup(viewsOf(m), x.who, x.page/4, y.who, y.page/4) {
		return false
	}
	first, xFirst := impl.MemSet(m, x.who, x.page, 201)
	first, yThen := impl.MemSet(first, y.who, y.page, 102)
	second, yFirst := impl.MemSet(m, y.who, y.page, 102)
	second, xThen := impl.MemSet(second, x.who, x.page, 201)
	for _, code := range []int{xFirst, yThen, yFirst, xThen} {
		if code == impl.MemFull {
			return false
		}
	}
	if xFirst != xThen || yFirst != yThen {
		t.Fatalf("%s: codes %d, %d and %d, %d", what, xFirst, yThen, xThen, yFirst)
	}
	wantMeans(t, what, second, mustMean(t, what, first))
	return xFirst == impl.MemFine && yFirst == impl.MemFine
}

// Promise 39.
func TestMemSetIsFullJustWithoutRoom(t *testing.T) {
	full, room := 0, 0
	for _, x := range validMems() {
		free := impl.PagesRoom(x.mem.Ram) + impl.PagesRoom(x.mem.Swap)
		for who := range 5 {
			for addr := range 64 {
				_, code := impl.MemSet(x.mem, who, addr, 9)
				if code == impl.MemFull && free > 0 {
					t.Fatalf("%s: MemSet of %d of space %d found no room, and %d places are free", x.name, addr, who, free)
				}
				if code == impl.MemFull {
					full++
				}
				if code == impl.MemFine && free == 1 {
					room++
				}
			}
		}
	}
	if full < 100 || room < 100 {
		t.Errorf("%d MemSets found no room, and %d the last place", full, room)
	}
}

// Promise 40.
func TestMemCutAndMemMapLeaveZeroBytes(t *testing.T) {
	done := 0
	for _, x := range validMems() {
		for who := range 5 {
			for k, pages := range validRanges() {
				if k%3 != 0 {
					continue
				}
				what := fmt.Sprintf("%s: MemCut and MemMap of %v of space %d", x.name, pages, who)
				pages.Write, pages.Shared = k%2 == 0, k%5 == 0
				cut, code := impl.MemCut(x.mem, who, pages.From, pages.Many)
				if code != impl.MemFine {
					continue
				}
				m, code := impl.MemMap(cut, who, pages)
				if code != impl.MemFine {
					continue
				}
				done++
				wantZeroPages(t, what, m, who, pages)
				wantOthersSame(t, what, mustMean(t, what, x.mem), mustMean(t, what, m), who)
			}
		}
	}
	if done < 1000 {
		t.Errorf("just %d areas were mapped again", done)
	}
}

// wantZeroPages checks each byte of an area, by MemPeek, and by MemGet if there is room.
func wantZeroPages(t *testing.T, what string, m impl.Mem, who int, a impl.Area) {
	t.Helper()
	for addr := 4 * a.From; addr < 4*(a.From+a.Many); addr++ {
		if b := mustPeek(t, what, m, who, addr); b != 0 {
			t.Fatalf("%s: byte %d is %d", what, addr, b)
		}
		if addr%4 == 3 {
			if _, b, code := impl.MemGet(m, who, addr); code != impl.MemFull && b != 0 {
				t.Fatalf("%s: MemGet of %d told %d, %d", what, addr, b, code)
			}
		}
	}
}

// Promise 41.
func TestForksOfForksHaveTheSameBytes(t *testing.T) {
	done := 0
	for _, x := range validMems() {
		for who := range 5 {
			one, child, ok := impl.MemFork(x.mem, who)
			if !ok {
				continue
			}
			two, last, ok := impl.MemFork(one, child)
			if !ok {
				continue
			}
			what := fmt.Sprintf("%s: space %d forked to %d, and that to %d", x.name, who, child, last)
			was := mustMean(t, what, two)
			wantOthersSame(t, what, mustMean(t, what, x.mem), was, child, last)
			if !sameBytes(was.Spaces[who], was.Spaces[child]) || !sameBytes(was.Spaces[child], was.Spaces[last]) {
				t.Fatalf("%s: they are unlike: %s", what, viewsText(was))
			}
			for k, addr := range fewAddresses() {
				by := []int{who, child, last}[k%3]
				if a, ok := areaOf(two.Spaces[by], addr/4); !ok || a.Shared {
					continue
				}
				m, code := impl.MemSet(two, by, addr, 99)
				wantOthersSame(t, what+", and written", was, mustMean(t, what, m), by)
				if code == impl.MemFine {
					done++
				}
			}
		}
	}
	if done < 50 {
		t.Errorf("just %d bytes were written", done)
	}
}

// Promise 42.
func TestMemGetTakesAPlaceAtMost(t *testing.T) {
	for _, x := range validMems() {
		for who := range 5 {
			for _, addr := range someAddresses() {
				m, _, code := impl.MemGet(x.mem, who, addr)
				if code == impl.MemBad {
					continue
				}
				need := 0
				if code == impl.MemFine && x.mem.Spaces[who].Slots[addr/4].Kind == 0 {
					need = 1
				}
				if n := placesTaken(m) - placesTaken(x.mem); n != need {
					t.Fatalf("%s: MemGet of %d of space %d took %d places, want %d", x.name, addr, who, n, need)
				}
			}
		}
	}
}

// Promises 19 to 22 and 26 along walks: what each call leads to means what BytesSet and BytesFork say.
func TestMeaningAlongWalks(t *testing.T) {
	for seed := range 12 {
		w := newWalk(int64(seed + 500))
		for n := range 300 {
			was := mustMean(t, "the walk", w.mem)
			w.step()
			what := fmt.Sprintf("walk %d, step %d, %s", seed, n, w.did)
			then := viewsOf(w.mem)
			wantMeans(t, what, w.mem, then)
			if w.code != impl.MemFine {
				wantViews(t, what+" that failed", then, was)
				continue
			}
			var b int
			var who int
			if _, err := fmt.Sscanf(w.did, "MemFork(%d)", &who); err == nil {
				want, ok := impl.BytesFork(was, who)
				wantMeans(t, fmt.Sprintf("%s, %v", what, ok), w.mem, want)
			}
			if _, err := fmt.Sscanf(w.did, fmt.Sprintf("MemSet(%d, %d, %%d)", w.who, w.addr), &b); err == nil {
				want, code := impl.BytesSet(was, w.who, w.addr, b)
				wantMeans(t, fmt.Sprintf("%s, %d", what, code), w.mem, want)
			}
		}
	}
}
