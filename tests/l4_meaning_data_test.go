package tests

import (
	"fmt"
	"math"
	"slices"
	"testing"

	"loop.example/quarterdeck/impl"
)

// namedViews is a meaning with a name for what a test reports.
type namedViews struct {
	name  string
	views impl.Views
}

// viewsEdit changes a meaning that a test has made.
type viewsEdit func(b *impl.Views)

// bytesOf is a live space with areas, the Groups of some pages, and the texts of some; the others in areas are zero bytes.
func bytesOf(areas []impl.Area, groups map[int]int, texts map[int]string) impl.BytesOf {
	s := impl.BytesOf{Live: true, Areas: slices.Clone(areas), Group: make([]int, 16), Text: make([]string, 16)}
	for _, a := range areas {
		for page := a.From; page < a.From+a.Many; page++ {
			s.Text[page] = zeroBytes
		}
	}
	for page, g := range groups {
		s.Group[page] = g
	}
	for page, text := range texts {
		s.Text[page] = text
	}
	return s
}

// meaning has the first spaces as told; the others of five are not live.
func meaning(spaces ...impl.BytesOf) impl.Views {
	return impl.Views{Spaces: append(slices.Clone(spaces), make([]impl.BytesOf, 5-len(spaces))...)}
}

// changed is a copy of a meaning that is changed.
func changed(b impl.Views, edits ...viewsEdit) impl.Views {
	n := cloneViews(b)
	for _, e := range edits {
		e(&n)
	}
	return n
}

// text makes the text of a page of a space another one.
func text(who, page int, bytes string) viewsEdit {
	return func(b *impl.Views) { b.Spaces[who].Text[page] = bytes }
}

// groups makes the Group of some pages of a space another one.
func groups(who int, group int, pages ...int) viewsEdit {
	return func(b *impl.Views) {
		for _, page := range pages {
			b.Spaces[who].Group[page] = group
		}
	}
}

// bytesSpace makes a space another one.
func bytesSpace(who int, s impl.BytesOf) viewsEdit {
	return func(b *impl.Views) { b.Spaces[who] = cloneBytes(s) }
}

// viewsOf reads what valid memory means, without the program.
func viewsOf(m impl.Mem) impl.Views {
	b := impl.Views{Spaces: make([]impl.BytesOf, 5)}
	for who, model := range meaningOf(m) {
		if !model.live {
			continue
		}
		s := bytesOf(m.Spaces[who].Areas, nil, nil)
		for page := range 16 {
			if model.areas[page].number != 0 {
				s.Group[page], s.Text[page] = model.group[page], string(model.text[page][:])
			}
		}
		b.Spaces[who] = s
	}
	return b
}

// memoryViews are meanings of memory: of that which is written out, and of that which calls lead to.
func memoryViews() []namedViews {
	list := []namedViews{}
	for _, x := range validMems() {
		list = append(list, namedViews{x.name, viewsOf(x.mem)})
	}
	return list
}

// fiveBytes has a space of each sort: live ones with Groups, one that is not live between, and one whose first page is in no area.
func fiveBytes() impl.Views {
	list := []impl.Area{writable(1, 3), shared(4, 4), area(9, 1), readShared(12, 4)}
	return meaning(
		bytesOf(list, map[int]int{4: 5, 5: 6, 12: 13}, map[int]string{1: "priv", 4: "four", 5: "five", 9: "read", 12: "12.."}),
		impl.BytesOf{},
		bytesOf(list, map[int]int{4: 5, 6: 39, 12: 13}, map[int]string{1: "mine", 4: "four", 6: "sixs", 12: "12..", 15: "last"}),
		bytesOf([]impl.Area{shared(0, 16)}, map[int]int{4: 5, 5: 6, 6: 39}, map[int]string{0: "zero", 4: "four", 5: "five", 6: "sixs", 15: "end."}),
		impl.BytesOf{})
}

// oddViews are those that no memory has.
func oddViews() []namedViews {
	list := []namedViews{
		{"nothing", impl.Views{}},
		{"four spaces", impl.Views{Spaces: fiveBytes().Spaces[:4]}},
		{"one space", impl.Views{Spaces: fiveBytes().Spaces[3:4]}},
		{"six spaces", impl.Views{Spaces: append(fiveBytes().Spaces, fiveBytes().Spaces[2])}},
		{"seven spaces, five live", impl.Views{Spaces: append(slices.Repeat(fiveBytes().Spaces[2:3], 5), impl.BytesOf{}, impl.BytesOf{})}},
	}
	list = append(list, oddSpaces()...)
	list = append(list, oddTexts()...)
	return append(list, oddGroups()...)
}

// oddSpaces has spaces that are told to be live, and are not, and some that are told not to be.
func oddSpaces() []namedViews {
	list := []namedViews{}
	for _, who := range []int{0, 1, 2, 4} {
		odd := func(name string, e func(s *impl.BytesOf)) {
			s := cloneBytes(fiveBytes().Spaces[2])
			e(&s)
			list = append(list, namedViews{fmt.Sprintf("space %d: %s", who, name), changed(fiveBytes(), bytesSpace(who, s))})
		}
		odd("live, with nothing else", func(s *impl.BytesOf) { *s = impl.BytesOf{Live: true} })
		odd("no Groups", func(s *impl.BytesOf) { s.Group = nil })
		odd("fifteen Groups", func(s *impl.BytesOf) { s.Group = s.Group[:15] })
		odd("seventeen Groups", func(s *impl.BytesOf) { s.Group = append(s.Group, 5) })
		odd("no texts", func(s *impl.BytesOf) { s.Text = nil })
		odd("two texts", func(s *impl.BytesOf) { s.Text = s.Text[:2] })
		odd("fifteen texts", func(s *impl.BytesOf) { s.Text = s.Text[:15] })
		odd("seventeen texts", func(s *impl.BytesOf) { s.Text = append(s.Text, "more") })
		odd("seventeen of both", func(s *impl.BytesOf) { s.Group, s.Text = append(s.Group, 5), append(s.Text, "more") })
		odd("areas descending", func(s *impl.BytesOf) { s.Areas[0], s.Areas[1] = s.Areas[1], s.Areas[0] })
		odd("areas that have a page of another one", func(s *impl.BytesOf) { s.Areas[0].Many++ })
		odd("not live, with all else", func(s *impl.BytesOf) { s.Live = false })
		odd("live, without areas", func(s *impl.BytesOf) { s.Areas = nil })
	}
	for _, x := range invalidAreas() {
		s := bytesOf(nil, nil, nil)
		s.Areas = x.list
		list = append(list, namedViews{"areas: " + x.name, changed(fiveBytes(), bytesSpace(1, s))})
	}
	return list
}

// oddTexts has texts that have not PageSize bytes, and bytes of pages in no area.
func oddTexts() []namedViews {
	list := []namedViews{}
	for _, bytes := range []string{"", "a", "abc", "abcde", "abcdefgh"} {
		list = append(list,
			namedViews{fmt.Sprintf("private %q", bytes), changed(fiveBytes(), text(0, 1, bytes), text(2, 3, bytes))},
			namedViews{fmt.Sprintf("only read %q", bytes), changed(fiveBytes(), text(0, 9, bytes), text(2, 12, bytes))},
			namedViews{fmt.Sprintf("Shared %q", bytes), changed(fiveBytes(), text(0, 4, bytes), text(3, 5, bytes), text(3, 7, bytes))},
			namedViews{fmt.Sprintf("in no area %q", bytes), changed(fiveBytes(), text(0, 0, bytes), text(2, 8, bytes))})
	}
	return append(list,
		namedViews{"a page of bytes in no area", changed(fiveBytes(), text(0, 0, "none"), text(2, 11, "none"))},
		namedViews{"unlike bytes of a Group", changed(fiveBytes(), text(0, 4, "this"), text(2, 4, "that"))})
}

// oddGroups has Groups of pages that cannot be the same bytes, and Groups that are told by other numbers.
func oddGroups() []namedViews {
	list := []namedViews{
		{"the same Group in one space", changed(fiveBytes(), groups(3, 39, 0, 1, 15))},
		{"the same Group in just one space", changed(fiveBytes(), groups(3, 77, 0, 1, 15))},
		{"one Group of all pages", changed(fiveBytes(), groups(0, 1, everyPage()...), groups(2, 1, everyPage()...), groups(3, 1, everyPage()...))},
		{"a Group of a page alone", changed(fiveBytes(), groups(2, 48, 15))},
		{"Groups of unlike pages", changed(fiveBytes(), groups(0, 8, 7), groups(2, 8, 5), groups(3, 8, 9))},
		{"Groups of private pages", changed(fiveBytes(), groups(0, 2, 1, 9), groups(2, 2, 1), groups(2, 35, 3), groups(3, 2, 1))},
		{"Groups of pages in no area", changed(fiveBytes(), groups(0, 1, 0), groups(2, 9, 8, 11), groups(3, 9, 8))},
		{"Groups that are those of other pages", changed(fiveBytes(), groups(0, 7, 5), groups(3, 7, 5), groups(2, 39, 12), groups(0, 23, 6), groups(3, 23, 7))},
	}
	for _, g := range []int{math.MinInt, math.MinInt32, -16, -1, 1, 2, 7, 16, 80, 81, 1 << 32, math.MaxInt - 1, math.MaxInt} {
		list = append(list, namedViews{fmt.Sprintf("the Group %d", g), changed(fiveBytes(), groups(0, g, 4), groups(2, g, 4), groups(3, g, 4))})
		list = append(list, namedViews{fmt.Sprintf("the Group %d behind others", g), changed(fiveBytes(), groups(2, g, 14, 15), groups(3, g, 15))})
	}
	return list
}

func everyPage() []int {
	list := []int{}
	for page := range 16 {
		list = append(list, page)
	}
	return list
}

// fullViews are meanings of which all spaces are live, so that none can be forked.
func fullViews() []namedViews {
	s := fiveBytes().Spaces
	return []namedViews{
		{"five spaces without areas", meaning(bytesOf(nil, nil, nil), bytesOf(nil, nil, nil), bytesOf(nil, nil, nil), bytesOf(nil, nil, nil), bytesOf(nil, nil, nil))},
		{"five spaces that share", meaning(s[0], s[0], s[2], s[3], s[3])},
	}
}

// writtenViews are meanings that are written out, valid ones and odd ones.
func writtenViews() []namedViews {
	list := append(oddViews(), fullViews()...)
	return append(list,
		namedViews{"fiveBytes", fiveBytes()},
		namedViews{"no space is live", meaning()},
		namedViews{"only the last one is live", meaning(impl.BytesOf{}, impl.BytesOf{}, impl.BytesOf{}, impl.BytesOf{}, fiveBytes().Spaces[3])})
}

// allViews has meanings of memory, and those that are written out.
func allViews() []namedViews {
	return append(memoryViews(), writtenViews()...)
}

func cloneBytes(s impl.BytesOf) impl.BytesOf {
	s.Areas, s.Group, s.Text = slices.Clone(s.Areas), slices.Clone(s.Group), slices.Clone(s.Text)
	return s
}

func cloneViews(b impl.Views) impl.Views {
	n := impl.Views{Spaces: slices.Clone(b.Spaces)}
	for who, s := range n.Spaces {
		n.Spaces[who] = cloneBytes(s)
	}
	return n
}

func sameBytes(x, y impl.BytesOf) bool {
	return x.Live == y.Live && slices.Equal(x.Areas, y.Areas) && slices.Equal(x.Group, y.Group) && slices.Equal(x.Text, y.Text)
}

func sameViews(a, b impl.Views) bool {
	return slices.EqualFunc(a.Spaces, b.Spaces, sameBytes)
}

func wantViews(t *testing.T, what string, got, want impl.Views) {
	t.Helper()
	if !sameViews(got, want) {
		t.Fatalf("%s:\n got %s\nwant %s", what, viewsText(got), viewsText(want))
	}
}

// wantViewsCode checks a call that returns a meaning and a code.
func wantViewsCode(t *testing.T, what string, got impl.Views, code int, want impl.Views, need int) {
	t.Helper()
	if code != need {
		t.Fatalf("%s: code %d, want %d", what, code, need)
	}
	wantViews(t, what, got, want)
}

// wantMeans checks the meaning of memory that is valid.
func wantMeans(t *testing.T, what string, m impl.Mem, want impl.Views) {
	t.Helper()
	got, ok := impl.BytesOfMem(m)
	if !ok || !impl.MemOk(m) {
		t.Fatalf("%s: BytesOfMem is %v, MemOk %v: %s", what, ok, impl.MemOk(m), memText(m))
	}
	wantViews(t, what+" means", got, want)
	if !impl.BytesSame(got, want) {
		t.Fatalf("%s: BytesSame tells another meaning", what)
	}
}

// mustMean is the meaning of valid memory, by the program.
func mustMean(t *testing.T, what string, m impl.Mem) impl.Views {
	t.Helper()
	b, ok := impl.BytesOfMem(m)
	if !ok {
		t.Fatalf("%s: BytesOfMem is false: %s", what, memText(m))
	}
	return b
}

// viewsText tells a meaning; pages without bytes and Group are left out.
func viewsText(b impl.Views) string {
	out := fmt.Sprintf("%d spaces", len(b.Spaces))
	for who, s := range b.Spaces {
		if !s.Live && len(s.Areas)+len(s.Group)+len(s.Text) == 0 {
			continue
		}
		out += fmt.Sprintf("\n  space %d, live %v, %v, %d Groups, %d texts", who, s.Live, s.Areas, len(s.Group), len(s.Text))
		for page := range max(len(s.Group), len(s.Text)) {
			if page < len(s.Group) && s.Group[page] != 0 {
				out += fmt.Sprintf(" %d:Group %d", page, s.Group[page])
			}
			if page < len(s.Text) && s.Text[page] != "" {
				out += fmt.Sprintf(" %d:%q", page, s.Text[page])
			}
		}
	}
	return out
}
