package tests

import (
	"testing"

	"loop.example/quarterdeck/impl"
)

// areasCase is a list, pages of it, and what is left; nil if it cannot be done.
type areasCase struct {
	name string
	list []impl.Area
	from int
	many int
	want []impl.Area
}

// wantCase checks what a call returned against what is left, or against a failure where that is nil.
func wantCase(t *testing.T, name string, got []impl.Area, ok bool, want []impl.Area) {
	t.Helper()
	if want == nil {
		wantNoAreas(t, name, got, ok)
		return
	}
	if !ok {
		t.Errorf("%s failed", name)
	}
	wantAreas(t, name, got, want)
}

func TestAreasConstants(t *testing.T) {
	if impl.PageMax != 16 || impl.AreaMax != 6 {
		t.Errorf("PageMax is %d and AreaMax %d", impl.PageMax, impl.AreaMax)
	}
}

// Promise 11, with places that are written out.
func TestAreasAtCases(t *testing.T) {
	list := []impl.Area{writable(0, 1), area(2, 3), shared(5, 1), readShared(15, 1)}
	want := [16]int{0, -1, 1, 1, 1, 2, -1, -1, -1, -1, -1, -1, -1, -1, -1, 3}
	for page, at := range want {
		if got := impl.AreasAt(list, page); got != at {
			t.Errorf("AreasAt of %d told %d, want %d", page, got, at)
		}
	}
	if n := impl.AreasPages(list); n != 6 {
		t.Errorf("AreasPages told %d, want 6", n)
	}
	if n := impl.AreasPages(nil); n != 0 {
		t.Errorf("AreasPages of no areas told %d", n)
	}
}

// Promise 12, with areas that are written out.
func TestAreasAddCases(t *testing.T) {
	two := []impl.Area{area(4, 2), area(8, 3)}
	for _, x := range []struct {
		name string
		list []impl.Area
		a    impl.Area
		want []impl.Area
	}{
		{"to no areas", nil, shared(3, 4), []impl.Area{shared(3, 4)}},
		{"all pages", nil, writable(0, 16), []impl.Area{writable(0, 16)}},
		{"ahead", two, writable(0, 1), []impl.Area{writable(0, 1), area(4, 2), area(8, 3)}},
		{"ahead and touching", two, area(1, 3), []impl.Area{area(1, 3), area(4, 2), area(8, 3)}},
		{"between and touching both", two, area(6, 2), []impl.Area{area(4, 2), area(6, 2), area(8, 3)}},
		{"behind and touching", two, area(11, 1), []impl.Area{area(4, 2), area(8, 3), area(11, 1)}},
		{"the last page", two, readShared(15, 1), []impl.Area{area(4, 2), area(8, 3), readShared(15, 1)}},
		{"a page of the first", two, area(3, 2), nil},
		{"a page of the second", two, area(6, 3), nil},
		{"in the second", two, area(9, 1), nil},
		{"around the first", two, area(3, 4), nil},
		{"the first", two, area(4, 2), nil},
		{"around all", two, area(0, 16), nil},
		{"the sixth", fiveAreas(), area(0, 1), append([]impl.Area{area(0, 1)}, fiveAreas()...)},
		{"the seventh", sixAreas(), area(15, 1), nil},
		{"the seventh, and a page of the first", sixAreas(), area(1, 1), nil},
	} {
		got, ok := impl.AreasAdd(x.list, x.a)
		wantCase(t, x.name, got, ok, x.want)
	}
}

// Promise 13, with areas that are written out.
func TestAreasCutCases(t *testing.T) {
	six := sixAreas()
	for _, x := range []areasCase{
		{"the middle", []impl.Area{writable(2, 5)}, 4, 1, []impl.Area{writable(2, 2), writable(5, 2)}},
		{"the middle of all pages", []impl.Area{shared(0, 16)}, 1, 14, []impl.Area{shared(0, 1), shared(15, 1)}},
		{"the beginning", []impl.Area{readShared(2, 5)}, 2, 2, []impl.Area{readShared(4, 3)}},
		{"the beginning and pages ahead", []impl.Area{writable(2, 5)}, 0, 4, []impl.Area{writable(4, 3)}},
		{"the end", []impl.Area{writable(2, 5)}, 5, 2, []impl.Area{writable(2, 3)}},
		{"the end and pages behind", []impl.Area{writable(2, 5)}, 5, 11, []impl.Area{writable(2, 3)}},
		{"all", []impl.Area{writable(2, 5)}, 2, 5, []impl.Area{}},
		{"all and pages around", []impl.Area{writable(2, 5)}, 0, 16, []impl.Area{}},
		{"pages ahead", []impl.Area{writable(2, 5)}, 0, 2, []impl.Area{writable(2, 5)}},
		{"pages behind", []impl.Area{writable(2, 5)}, 7, 9, []impl.Area{writable(2, 5)}},
		{"pages between", []impl.Area{writable(2, 2), area(7, 2)}, 4, 3, []impl.Area{writable(2, 2), area(7, 2)}},
		{"of no areas", nil, 3, 3, []impl.Area{}},
		{"all of two, and one ahead stays", []impl.Area{area(0, 1), writable(2, 2), area(7, 2)}, 1, 15, []impl.Area{area(0, 1)}},
		{"parts of two", []impl.Area{writable(2, 3), shared(7, 3)}, 4, 4, []impl.Area{writable(2, 2), shared(8, 2)}},
		{"parts of two that touch", []impl.Area{writable(2, 3), shared(5, 3)}, 4, 2, []impl.Area{writable(2, 2), shared(6, 2)}},
		{"one of two that touch", []impl.Area{writable(2, 3), shared(5, 3)}, 5, 3, []impl.Area{writable(2, 3)}},
		{"parts of two and all of the four between", six, 1, 13, []impl.Area{writable(0, 1), writable(14, 1)}},
		{"to six", fiveAreas(), 5, 1, []impl.Area{writable(1, 3), shared(4, 1), shared(6, 1), area(8, 1), writable(10, 1), readShared(12, 3)}},
		{"to seven", six, 8, 1, nil},
		{"the end of one of six", six, 9, 1, []impl.Area{six[0], six[1], six[2], writable(7, 2), six[4], six[5]}},
		{"one of six", six, 11, 1, []impl.Area{six[0], six[1], six[2], six[3], six[5]}},
		{"all of six", six, 0, 16, []impl.Area{}},
	} {
		got, ok := impl.AreasCut(x.list, x.from, x.many)
		wantCase(t, x.name, got, ok, x.want)
	}
}

// Promise 14, with areas that are written out; Write is false behind each.
func TestAreasSetCases(t *testing.T) {
	six, five := sixAreas(), fiveAreas()
	four := []impl.Area{writable(1, 3), shared(5, 1), area(7, 4), readShared(12, 2)}
	touching := []impl.Area{area(0, 1), writable(2, 2), shared(4, 3), area(8, 1), area(10, 1), area(12, 1)}
	for _, x := range []areasCase{
		{"all of one", []impl.Area{writable(2, 5)}, 2, 5, []impl.Area{area(2, 5)}},
		{"all pages", []impl.Area{shared(0, 16)}, 0, 16, []impl.Area{readShared(0, 16)}},
		{"the middle", []impl.Area{writable(2, 5)}, 4, 1, []impl.Area{writable(2, 2), area(4, 1), writable(5, 2)}},
		{"the middle, which was so", []impl.Area{area(2, 5)}, 4, 1, []impl.Area{area(2, 2), area(4, 1), area(5, 2)}},
		{"the beginning", []impl.Area{shared(2, 5)}, 2, 2, []impl.Area{readShared(2, 2), shared(4, 3)}},
		{"the end", []impl.Area{shared(2, 5)}, 6, 1, []impl.Area{shared(2, 4), readShared(6, 1)}},
		{"parts of two", []impl.Area{writable(2, 3), shared(5, 3)}, 4, 2, []impl.Area{writable(2, 2), area(4, 1), readShared(5, 1), shared(6, 2)}},
		{"all of two", []impl.Area{writable(2, 3), writable(5, 3)}, 2, 6, []impl.Area{area(2, 3), area(5, 3)}},
		{"three", []impl.Area{writable(0, 2), area(2, 1), shared(3, 2)}, 1, 3, []impl.Area{writable(0, 1), area(1, 1), area(2, 1), readShared(3, 1), shared(4, 1)}},
		{"a page that no area has, ahead", []impl.Area{writable(2, 5)}, 1, 3, nil},
		{"a page that no area has, behind", []impl.Area{writable(2, 5)}, 5, 3, nil},
		{"a page that no area has, between", []impl.Area{writable(2, 3), writable(6, 3)}, 4, 3, nil},
		{"only pages that no area has", []impl.Area{writable(2, 3)}, 8, 3, nil},
		{"of no areas", nil, 0, 1, nil},
		{"the middle of one of four", four, 8, 1, []impl.Area{four[0], four[1], area(7, 1), area(8, 1), area(9, 2), four[3]}},
		{"the middle of one of five, too many behind the cut", five, 5, 1, nil},
		{"the beginning of one of five", five, 4, 1, []impl.Area{five[0], readShared(4, 1), shared(5, 2), five[2], five[3], five[4]}},
		{"parts of two of five, too many with the second part", five, 3, 2, nil},
		{"all of one and a part of another of five", five, 1, 4, []impl.Area{area(1, 3), readShared(4, 1), shared(5, 2), five[2], five[3], five[4]}},
		{"the middle of one of six, too many by the cut", six, 8, 1, nil},
		{"the middle of one of six, which was so", []impl.Area{area(0, 3), six[1], six[2], six[3], six[4], six[5]}, 1, 1, nil},
		{"the beginning of one of six", six, 7, 1, nil},
		{"the end of one of six", six, 9, 1, nil},
		{"all of one of six", six, 7, 3, []impl.Area{six[0], six[1], six[2], area(7, 3), six[4], six[5]}},
		{"all of two of six", touching, 2, 5, []impl.Area{touching[0], area(2, 2), readShared(4, 3), touching[3], touching[4], touching[5]}},
		{"parts of two of six", touching, 3, 2, nil},
		{"all of one and a part of another of six", touching, 2, 3, nil},
	} {
		got, ok := impl.AreasSet(x.list, x.from, x.many, false)
		wantCase(t, x.name, got, ok, x.want)
	}
}

func TestAreasSetToWrite(t *testing.T) {
	got, ok := impl.AreasSet([]impl.Area{readShared(2, 3), area(5, 3)}, 4, 2, true)
	wantCase(t, "AreasSet to true", got, ok, []impl.Area{readShared(2, 2), shared(4, 1), writable(5, 1), area(6, 2)})
}
