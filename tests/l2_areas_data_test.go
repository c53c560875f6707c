package tests

import (
	"fmt"
	"math"
	"math/rand"
	"slices"
	"testing"

	"loop.example/quarterdeck/impl"
)

// namedAreas is areas with a name for what a test reports.
type namedAreas struct {
	name string
	list []impl.Area
}

// area is one that may only be read, and is not shared.
func area(from, many int) impl.Area {
	return impl.Area{From: from, Many: many}
}

// writable is an area that may be written.
func writable(from, many int) impl.Area {
	return impl.Area{From: from, Many: many, Write: true}
}

// shared is an area that may be written, and is shared.
func shared(from, many int) impl.Area {
	return impl.Area{From: from, Many: many, Write: true, Shared: true}
}

// readShared is an area that may only be read, and is shared.
func readShared(from, many int) impl.Area {
	return impl.Area{From: from, Many: many, Shared: true}
}

// sixAreas has AreaMax areas with free pages between them, and is not at its end.
func sixAreas() []impl.Area {
	return []impl.Area{writable(0, 2), shared(3, 1), area(5, 1), writable(7, 3), readShared(11, 1), writable(13, 2)}
}

// fiveAreas has one less than AreaMax; the first two touch each other.
func fiveAreas() []impl.Area {
	return []impl.Area{writable(1, 3), shared(4, 3), area(8, 1), writable(10, 1), readShared(12, 3)}
}

// randomAreas are valid areas that a fixed seed chooses.
func randomAreas(seed int64) []impl.Area {
	r := rand.New(rand.NewSource(seed))
	list := []impl.Area{}
	most, gap := 1+r.Intn(6), r.Intn(4)
	for from := r.Intn(gap + 1); from < 16 && len(list) < most; {
		many := 1 + r.Intn(min(16-from, 1+r.Intn(6)))
		list = append(list, impl.Area{From: from, Many: many, Write: r.Intn(2) == 0, Shared: r.Intn(2) == 0})
		from += many + r.Intn(gap+1)
	}
	return list
}

// validAreas is told without the program, so that it is valid whatever that does.
func validAreas() []namedAreas {
	list := []namedAreas{
		{"nil", nil},
		{"no areas", []impl.Area{}},
		{"the first page", []impl.Area{writable(0, 1)}},
		{"the last page", []impl.Area{shared(15, 1)}},
		{"a page in the middle", []impl.Area{area(8, 1)}},
		{"all pages", []impl.Area{writable(0, 16)}},
		{"all pages but the first", []impl.Area{readShared(1, 15)}},
		{"all pages but the last", []impl.Area{shared(0, 15)}},
		{"touching", []impl.Area{writable(2, 3), area(5, 3)}},
		{"touching and alike", []impl.Area{writable(2, 3), writable(5, 3), writable(8, 1)}},
		{"all pages in two", []impl.Area{area(0, 8), shared(8, 8)}},
		{"the first and the last page", []impl.Area{area(0, 1), writable(15, 1)}},
		{"four", []impl.Area{writable(1, 3), shared(5, 1), area(7, 4), readShared(12, 2)}},
		{"five", fiveAreas()},
		{"six", sixAreas()},
		{"six of a page", []impl.Area{area(0, 1), area(1, 1), area(2, 1), area(3, 1), area(4, 1), area(5, 1)}},
		{"six that have all pages", []impl.Area{area(0, 3), writable(3, 3), shared(6, 3), area(9, 3), readShared(12, 3), area(15, 1)}},
	}
	for seed := range 200 {
		list = append(list, namedAreas{fmt.Sprintf("random areas %d", seed), randomAreas(int64(seed))})
	}
	return list
}

// allOneAndTwoAreas has all lists of one area, and all of two.
func allOneAndTwoAreas() []namedAreas {
	list := []namedAreas{}
	for i, a := range validRanges() {
		a.Write, a.Shared = i%2 == 0, i%3 == 0
		list = append(list, namedAreas{fmt.Sprintf("one area %v", a), []impl.Area{a}})
		for k, b := range validRanges() {
			if b.From < a.From+a.Many {
				continue
			}
			b.Write, b.Shared = k%3 == 0, k%2 == 0
			list = append(list, namedAreas{fmt.Sprintf("two areas %v %v", a, b), []impl.Area{a, b}})
		}
	}
	return list
}

// invalidAreas has lists each of which is not one of areas for just one cause.
func invalidAreas() []namedAreas {
	seven := []impl.Area{}
	for at := range 7 {
		seven = append(seven, writable(2*at, 1))
	}
	list := []namedAreas{
		{"seven", seven},
		{"seven that touch", []impl.Area{area(0, 1), area(1, 1), area(2, 1), area(3, 1), area(4, 1), area(5, 1), area(6, 1)}},
		{"a hundred that are none", make([]impl.Area, 100)},
		{"descending", []impl.Area{writable(5, 2), writable(1, 2)}},
		{"descending at the end", []impl.Area{writable(1, 2), writable(8, 2), writable(5, 2)}},
		{"descending and touching", []impl.Area{writable(5, 2), writable(3, 2)}},
		{"the same twice", []impl.Area{writable(5, 2), writable(5, 2)}},
		{"the same first page", []impl.Area{area(5, 1), writable(5, 3)}},
		{"a page of two", []impl.Area{writable(2, 4), area(5, 3)}},
		{"a page of two at the end", []impl.Area{area(0, 1), writable(2, 4), area(5, 3)}},
		{"one in another one", []impl.Area{writable(2, 6), area(4, 1)}},
		{"all pages and the last one", []impl.Area{area(0, 16), area(15, 1)}},
	}
	for _, a := range invalidRanges() {
		list = append(list,
			namedAreas{fmt.Sprintf("only %v", a), []impl.Area{a}},
			namedAreas{fmt.Sprintf("%v ahead of one", a), []impl.Area{a, writable(8, 2)}},
			namedAreas{fmt.Sprintf("%v behind one", a), []impl.Area{writable(0, 1), a}})
	}
	return list
}

// validRanges has all pages that an area may have.
func validRanges() []impl.Area {
	list := []impl.Area{}
	for from := range 16 {
		for many := 1; from+many <= 16; many++ {
			list = append(list, area(from, many))
		}
	}
	return list
}

// invalidRanges has pages that no area may have, also those of which From+Many is not what it seems.
func invalidRanges() []impl.Area {
	list := []impl.Area{
		area(0, 0), area(5, 0), area(16, 0), area(3, -1), area(15, -15), area(5, math.MinInt),
		area(-1, 1), area(-1, 2), area(-1, 17), area(-16, 16), area(math.MinInt, 1), area(math.MinInt, math.MaxInt),
		area(16, 1), area(15, 2), area(1, 16), area(0, 17), area(8, 9), area(100, 1), area(0, 100),
		area(math.MaxInt, 1), area(math.MaxInt, math.MaxInt), area(math.MinInt, math.MinInt),
		area(1, math.MaxInt), area(15, math.MaxInt), area(math.MaxInt-14, 15), area(math.MaxInt, 2),
	}
	return list
}

// pagesToTry has each page that there is, and numbers that are none.
func pagesToTry() []int {
	list := []int{math.MinInt, math.MinInt32, -16, -1, 16, 17, 32, 100, math.MaxInt32, math.MaxInt}
	for page := range 16 {
		list = append(list, page)
	}
	return list
}

// partOf is a page of an area of which no page is told apart: the pages of one area have the same number, other than 0.
type partOf struct {
	number        int
	write, shared bool
}

// pageModel tells of each page of which area it is; this is what the tests compute with instead of areas.
type pageModel [16]partOf

func modelOf(list []impl.Area) pageModel {
	m := pageModel{}
	for at, a := range list {
		for page := a.From; page < a.From+a.Many; page++ {
			m[page] = partOf{at + 1, a.Write, a.Shared}
		}
	}
	return m
}

// areas are the longest ranges of pages with the same number.
func (m pageModel) areas() []impl.Area {
	list := []impl.Area{}
	for page, x := range m {
		switch {
		case x.number == 0:
		case page > 0 && m[page-1] == x:
			list[len(list)-1].Many++
		default:
			list = append(list, impl.Area{From: page, Many: 1, Write: x.write, Shared: x.shared})
		}
	}
	return list
}

func (m pageModel) cut(pages impl.Area) pageModel {
	for page := range m {
		if inRange(page, pages) {
			m[page] = partOf{}
		}
	}
	return m
}

// set returns the model with new parts; their numbers are not those of areas.
func (m pageModel) set(pages impl.Area, write bool) pageModel {
	for page := range m {
		if inRange(page, pages) {
			m[page].number += 100
			m[page].write = write
		}
	}
	return m
}

// has counts the pages of a range that are in an area.
func (m pageModel) has(pages impl.Area) int {
	n := 0
	for page, x := range m {
		if x.number != 0 && inRange(page, pages) {
			n++
		}
	}
	return n
}

func inRange(page int, pages impl.Area) bool {
	return page >= pages.From && page < pages.From+pages.Many
}

func wantAreas(t *testing.T, what string, got, want []impl.Area) {
	t.Helper()
	if !slices.Equal(got, want) {
		t.Fatalf("%s: got %v, want %v", what, got, want)
	}
}

// wantNoAreas checks a call that fails with nothing.
func wantNoAreas(t *testing.T, what string, got []impl.Area, ok bool) {
	t.Helper()
	if ok || len(got) != 0 {
		t.Fatalf("%s: got %v, %v, want nothing and false", what, got, ok)
	}
}
