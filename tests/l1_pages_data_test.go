package tests

import (
	"math"
	"math/rand"
	"slices"
	"strings"
	"testing"

	"loop.example/quarterdeck/impl"
)

// namedPages is pages with a name for what a test reports.
type namedPages struct {
	name  string
	pages impl.Pages
}

// placesToTry has each place that pages may have, and numbers around and far from them.
func placesToTry() []int {
	list := []int{math.MinInt, math.MinInt32, -100, -1, 14, 98, 99, 100, math.MaxInt32, math.MaxInt}
	for at := range 14 {
		list = append(list, at)
	}
	return list
}

// bytesToTry has bytes and numbers that are none, among them those that would be bytes if they were cut to 8 bits.
func bytesToTry() []int {
	return []int{math.MinInt, -256, -1, 0, 1, 97, 127, 128, 254, 255, 256, 353, math.MaxInt}
}

// textsToTry has texts of PageSize bytes and others, also one of PageSize runes that has more bytes.
func textsToTry() []string {
	return []string{"", "a", "abc", "abcd", "abcde", "abcdefgh", "\x00\x00\x00\x00", "\xff\xfe\x80\x00", "éé", "éééé", strings.Repeat("x", 1000)}
}

// fullPages has so many places, none of which is free.
func fullPages(n int) impl.Pages {
	p := impl.Pages{}
	for at := range n {
		p.Text = append(p.Text, strings.Repeat(string(rune('a'+at)), impl.PageSize))
		p.Refs = append(p.Refs, 1+at*8)
	}
	return p
}

// walkedPages is reached from new pages by calls that a fixed seed chooses.
func walkedPages(seed int64) impl.Pages {
	r := rand.New(rand.NewSource(seed))
	p, _ := impl.PagesNew(1 + r.Intn(12))
	for range 60 {
		at := r.Intn(len(p.Refs))
		next, ok := p, false
		switch r.Intn(5) {
		case 0, 1:
			next, _, ok = impl.PagesTake(p, string([]byte{byte(r.Intn(256)), byte(r.Intn(256)), 'x', 0}))
		case 2:
			next, ok = impl.PagesKeep(p, at)
		case 3:
			next, ok = impl.PagesGive(p, at)
		case 4:
			next, ok = impl.PagesSet(p, at, r.Intn(4), r.Intn(256))
		}
		if ok {
			p = next
		}
	}
	return p
}

// validPages is written out, so that it is valid whatever the program does, but for what was walked to.
func validPages() []namedPages {
	list := []namedPages{
		{"one free place", impl.Pages{Text: []string{""}, Refs: []int{0}}},
		{"one place", impl.Pages{Text: []string{"abcd"}, Refs: []int{1}}},
		{"zero bytes", impl.Pages{Text: []string{"\x00\x00\x00\x00"}, Refs: []int{1}}},
		{"free behind", impl.Pages{Text: []string{"abcd", ""}, Refs: []int{2, 0}}},
		{"free ahead", impl.Pages{Text: []string{"", "abcd"}, Refs: []int{0, 1}}},
		{"two free", impl.Pages{Text: []string{"abcd", "", "\xff\xfe\x80\x00", ""}, Refs: []int{98, 0, 99, 0}}},
		{"all alike", impl.Pages{Text: []string{"abcd", "abcd", "abcd"}, Refs: []int{1, 1, 1}}},
		{"twelve free places", impl.Pages{Text: make([]string, 12), Refs: make([]int, 12)}},
		{"eleven taken places", fullPages(11)},
		{"twelve taken places", fullPages(12)},
	}
	for seed := range 40 {
		list = append(list, namedPages{"walked pages", walkedPages(int64(seed))})
	}
	return list
}

// oneBad is a valid place, one with a text and a number, and one that is free.
func oneBad(text string, refs int) impl.Pages {
	return impl.Pages{Text: []string{"abcd", text, ""}, Refs: []int{1, refs, 0}}
}

// invalidPages has pages each of which is not valid for just one cause.
func invalidPages() []namedPages {
	list := []namedPages{
		{"nothing", impl.Pages{}},
		{"empty lists", impl.Pages{Text: []string{}, Refs: []int{}}},
		{"only texts", impl.Pages{Text: []string{""}}},
		{"only numbers", impl.Pages{Refs: []int{0}}},
		{"a text more", impl.Pages{Text: []string{"abcd", ""}, Refs: []int{1}}},
		{"a number more", impl.Pages{Text: []string{"abcd"}, Refs: []int{1, 0}}},
		{"a text more than twelve", impl.Pages{Text: make([]string, 13), Refs: make([]int, 12)}},
		{"a number more than twelve", impl.Pages{Text: make([]string, 12), Refs: make([]int, 13)}},
		{"thirteen free places", impl.Pages{Text: make([]string, 13), Refs: make([]int, 13)}},
		{"a hundred free places", impl.Pages{Text: make([]string, 100), Refs: make([]int, 100)}},
		{"thirteen taken places", impl.Pages{Text: append(fullPages(12).Text, "abcd"), Refs: append(fullPages(12).Refs, 1)}},
		{"free with a text", oneBad("abcd", 0)},
		{"free with a byte", oneBad("a", 0)},
		{"taken without a text", oneBad("", 1)},
		{"a byte less", oneBad("abc", 1)},
		{"a byte more", oneBad("abcde", 1)},
		{"four runes", oneBad("éééé", 1)},
		{"-1 refer", oneBad("abcd", -1)},
		{"-1 refer to no text", oneBad("", -1)},
		{"100 refer", oneBad("abcd", 100)},
		{"100 refer to no text", oneBad("", 100)},
		{"least number", oneBad("abcd", math.MinInt)},
		{"greatest number", oneBad("abcd", math.MaxInt)},
		{"bad at the beginning", impl.Pages{Text: []string{"abc", "abcd"}, Refs: []int{1, 1}}},
		{"bad at the end", impl.Pages{Text: []string{"abcd", "abc"}, Refs: []int{1, 1}}},
	}
	return list
}

func clonePages(p impl.Pages) impl.Pages {
	return impl.Pages{Text: slices.Clone(p.Text), Refs: slices.Clone(p.Refs)}
}

func samePages(a, b impl.Pages) bool {
	return slices.Equal(a.Text, b.Text) && slices.Equal(a.Refs, b.Refs)
}

func wantPages(t *testing.T, what string, got, want impl.Pages) {
	t.Helper()
	if !samePages(got, want) {
		t.Fatalf("%s: got %#v, want %#v", what, got, want)
	}
}

// wantNoPages checks a call that fails with nothing.
func wantNoPages(t *testing.T, what string, got impl.Pages, ok bool) {
	t.Helper()
	if ok || len(got.Text) != 0 || len(got.Refs) != 0 {
		t.Fatalf("%s: got %#v, %v, want nothing and false", what, got, ok)
	}
}

// isPlace tells, without the program, whether a place of valid pages is there and not free.
func isPlace(p impl.Pages, at int) bool {
	return at >= 0 && at < len(p.Refs) && p.Refs[at] > 0
}

func firstFree(p impl.Pages) int {
	return slices.Index(p.Refs, 0)
}

func countRefs(p impl.Pages) int {
	sum := 0
	for _, n := range p.Refs {
		sum += n
	}
	return sum
}

func countFree(p impl.Pages) int {
	n := 0
	for _, r := range p.Refs {
		if r == 0 {
			n++
		}
	}
	return n
}
