package tests

import (
	"fmt"
	"slices"
	"testing"

	"loop.example/quarterdeck/impl"
)

// Promise 9.
func TestAreaOkIsThatOfPages(t *testing.T) {
	if len(validRanges()) != 136 {
		t.Fatalf("there are %d ranges of pages", len(validRanges()))
	}
	check := func(a impl.Area, want bool) {
		for _, b := range []impl.Area{a, {From: a.From, Many: a.Many, Write: true}, {From: a.From, Many: a.Many, Shared: true}, {From: a.From, Many: a.Many, Write: true, Shared: true}} {
			if impl.AreaOk(b) != want || impl.AreasOk([]impl.Area{b}) != want {
				t.Errorf("%v: AreaOk %v, AreasOk %v, want %v", b, impl.AreaOk(b), impl.AreasOk([]impl.Area{b}), want)
			}
		}
	}
	for _, a := range validRanges() {
		check(a, true)
	}
	for _, a := range invalidRanges() {
		check(a, false)
	}
}

// Promise 10.
func TestAreasOkIsThatThereArePages(t *testing.T) {
	for _, x := range append(validAreas(), allOneAndTwoAreas()...) {
		pages := modelOf(x.list).has(area(0, 16))
		if !impl.AreasOk(x.list) || impl.AreasPages(x.list) != pages {
			t.Errorf("%s %v: valid %v, %d pages, want %d", x.name, x.list, impl.AreasOk(x.list), impl.AreasPages(x.list), pages)
		}
	}
	for _, x := range invalidAreas() {
		if impl.AreasOk(x.list) || impl.AreasPages(x.list) != -1 {
			t.Errorf("%s: valid %v, %d pages", x.name, impl.AreasOk(x.list), impl.AreasPages(x.list))
		}
	}
}

// Promises 11 and 15.
func TestAreasAtHasThePage(t *testing.T) {
	for _, x := range append(validAreas(), allOneAndTwoAreas()...) {
		m := modelOf(x.list)
		found := 0
		for _, page := range pagesToTry() {
			want := -1
			if page >= 0 && page < 16 {
				want = m[page].number - 1
			}
			at := impl.AreasAt(x.list, page)
			if at != want {
				t.Errorf("%s %v: AreasAt of %d told %d, want %d", x.name, x.list, page, at, want)
			}
			if at != -1 {
				found++
			}
		}
		if impl.AreasPages(x.list) != found {
			t.Errorf("%s %v: %d pages, and AreasAt finds %d", x.name, x.list, impl.AreasPages(x.list), found)
		}
	}
}

// Promise 12.
func TestAreasAddAtItsPlace(t *testing.T) {
	for _, x := range validAreas() {
		m := modelOf(x.list)
		for _, a := range validRanges() {
			for _, a := range []impl.Area{a, shared(a.From, a.Many)} {
				what := fmt.Sprintf("%s %v: AreasAdd of %v", x.name, x.list, a)
				got, ok := impl.AreasAdd(x.list, a)
				if len(x.list) == 6 || m.has(a) > 0 {
					wantNoAreas(t, what, got, ok)
					continue
				}
				want := append(slices.Clone(x.list), a)
				slices.SortFunc(want, func(a, b impl.Area) int { return a.From - b.From })
				wantAreas(t, what, got, want)
				if !ok || !impl.AreasOk(got) || impl.AreasPages(got) != impl.AreasPages(x.list)+a.Many {
					t.Errorf("%s: %v, valid %v, %d pages", what, ok, impl.AreasOk(got), impl.AreasPages(got))
				}
				back, ok := impl.AreasCut(got, a.From, a.Many)
				if !ok {
					t.Errorf("%s: AreasCut behind it failed", what)
				}
				wantAreas(t, what+" and AreasCut", back, x.list)
			}
		}
	}
}

// Promise 13.
func TestAreasCutLeavesAllOthers(t *testing.T) {
	for _, x := range append(validAreas(), allOneAndTwoAreas()...) {
		for _, a := range validRanges() {
			what := fmt.Sprintf("%s %v: AreasCut of %v", x.name, x.list, a)
			want := modelOf(x.list).cut(a).areas()
			got, ok := impl.AreasCut(x.list, a.From, a.Many)
			if len(want) > 6 {
				wantNoAreas(t, what, got, ok)
				continue
			}
			wantAreas(t, what, got, want)
			if !ok || !impl.AreasOk(got) {
				t.Errorf("%s: %v, valid %v", what, ok, impl.AreasOk(got))
			}
		}
	}
}

// Promise 14.
func TestAreasSetChangesJustTheirWrite(t *testing.T) {
	for _, x := range append(validAreas(), allOneAndTwoAreas()...) {
		m := modelOf(x.list)
		for _, a := range validRanges() {
			for _, write := range []bool{false, true} {
				what := fmt.Sprintf("%s %v: AreasSet of %v to %v", x.name, x.list, a, write)
				got, ok := impl.AreasSet(x.list, a.From, a.Many, write)
				want := m.set(a, write).areas()
				if m.has(a) < a.Many || len(want) > 6 {
					wantNoAreas(t, what, got, ok)
					continue
				}
				wantAreas(t, what, got, want)
				if !ok || !impl.AreasOk(got) {
					t.Errorf("%s: %v, valid %v", what, ok, impl.AreasOk(got))
				}
			}
		}
	}
}

// Promise 16.
func TestAreasCutInEitherOrder(t *testing.T) {
	cut := func(list []impl.Area, a, b impl.Area) ([]impl.Area, bool) {
		one, ok := impl.AreasCut(list, a.From, a.Many)
		if !ok {
			return nil, false
		}
		return impl.AreasCut(one, b.From, b.Many)
	}
	for _, x := range validAreas()[:50] {
		for _, a := range validRanges() {
			for _, b := range validRanges() {
				one, ok1 := cut(x.list, a, b)
				two, ok2 := cut(x.list, b, a)
				if ok1 && ok2 {
					want := modelOf(x.list).cut(a).cut(b).areas()
					wantAreas(t, fmt.Sprintf("%s: cut %v, then %v", x.name, a, b), one, want)
					wantAreas(t, fmt.Sprintf("%s: cut %v, then %v", x.name, b, a), two, want)
				}
			}
		}
	}
}

// Promise 17.
func TestAreasSetTwiceIsTheSecondOne(t *testing.T) {
	for _, x := range validAreas() {
		for _, a := range validRanges() {
			for _, second := range []bool{false, true} {
				alone, ok := impl.AreasSet(x.list, a.From, a.Many, second)
				if !ok {
					continue
				}
				for _, first := range []bool{false, true} {
					one, ok1 := impl.AreasSet(x.list, a.From, a.Many, first)
					two, ok2 := impl.AreasSet(one, a.From, a.Many, second)
					if !ok1 || !ok2 {
						t.Errorf("%s: AreasSet of %v to %v failed, and to %v did not", x.name, a, first, second)
					}
					wantAreas(t, fmt.Sprintf("%s: AreasSet of %v to %v, then %v", x.name, a, first, second), two, alone)
				}
			}
		}
	}
}

func TestAreasOfPagesThatNoAreaHasFail(t *testing.T) {
	for _, x := range validAreas() {
		for _, a := range invalidRanges() {
			wantAllFail(t, fmt.Sprintf("%s, %v", x.name, a), x.list, a)
		}
	}
}

func TestAreasThatAreNotValidFail(t *testing.T) {
	for _, x := range invalidAreas() {
		for _, page := range pagesToTry() {
			if at := impl.AreasAt(x.list, page); at != -1 {
				t.Errorf("%s: AreasAt of %d told %d", x.name, page, at)
			}
		}
		for _, a := range append(validRanges(), invalidRanges()...) {
			wantAllFail(t, fmt.Sprintf("%s, %v", x.name, a), x.list, a)
		}
	}
}

// wantAllFail checks that nothing can be added, cut or set.
func wantAllFail(t *testing.T, what string, list []impl.Area, a impl.Area) {
	t.Helper()
	got, ok := impl.AreasAdd(list, a)
	wantNoAreas(t, "AreasAdd: "+what, got, ok)
	got, ok = impl.AreasAdd(list, impl.Area{From: a.From, Many: a.Many, Write: true, Shared: true})
	wantNoAreas(t, "AreasAdd, shared: "+what, got, ok)
	got, ok = impl.AreasCut(list, a.From, a.Many)
	wantNoAreas(t, "AreasCut: "+what, got, ok)
	for _, write := range []bool{false, true} {
		got, ok = impl.AreasSet(list, a.From, a.Many, write)
		wantNoAreas(t, "AreasSet: "+what, got, ok)
	}
}
