package tests

import (
	"slices"
	"testing"

	"loop.example/quarterdeck/impl"
)

// wantForkOf checks BytesFork of a space.
func wantForkOf(t *testing.T, name string, b impl.Views, who int, want impl.Views) {
	t.Helper()
	got, ok := impl.BytesFork(b, who)
	if !ok {
		t.Fatalf("BytesFork, %s: false", name)
	}
	wantViews(t, "BytesFork, "+name, got, want)
}

// Promises 19 and 28, with meanings that are written out.
func TestBytesOfMemCases(t *testing.T) {
	dead, none := impl.BytesOf{}, bytesOf(nil, nil, nil)
	two := []impl.Area{writable(0, 2), shared(14, 2)}
	four := []impl.Area{area(0, 1), shared(2, 2), readShared(5, 2), writable(15, 1)}
	for _, x := range []struct {
		name string
		mem  impl.Mem
		want impl.Views
	}{
		{"new memory", memOf(0), meaning()},
		{"without areas", memOf(0, liveSpace(nil, nil)), meaning(none)},
		{"nowhere yet", memOf(0, liveSpace(two, nil)), meaning(bytesOf(two, nil, map[int]string{0: zeroBytes, 1: zeroBytes, 14: zeroBytes, 15: zeroBytes}))},
		{"nowhere yet, in two", memOf(0, liveSpace(two, nil), liveSpace(two, nil)), meaning(bytesOf(two, nil, nil), bytesOf(two, nil, nil))},
		{"in memory and in swap, alone", memOf(0, liveSpace(two, map[int]string{0: "f2o", 1: "s2", 14: "f11ou", 15: "s0o"})),
			meaning(bytesOf(two, nil, map[int]string{0: "CCCC", 1: "cccc", 14: "LLLL", 15: "aaaa"}))},
		{"of two", memOf(0, liveSpace(two, map[int]string{0: "f2", 1: "s2", 14: "f11ou", 15: "s0o"}), liveSpace(two, map[int]string{0: "f2", 1: "s2", 14: "f11o", 15: "s0o"})),
			meaning(bytesOf(two, map[int]int{14: 15, 15: 16}, map[int]string{0: "CCCC", 1: "cccc", 14: "LLLL", 15: "aaaa"}),
				bytesOf(two, map[int]int{14: 15, 15: 16}, map[int]string{0: "CCCC", 1: "cccc", 14: "LLLL", 15: "aaaa"}))},
		{"of three, with others that are not live", memOf(0, impl.Space{}, liveSpace(four, map[int]string{2: "f3o", 5: "s3o"}), impl.Space{}, liveSpace(four, map[int]string{2: "f3o"}), liveSpace(four, map[int]string{2: "f3o", 5: "s3o", 6: "s4o"})),
			meaning(dead, bytesOf(four, map[int]int{2: 19, 5: 22}, map[int]string{2: "DDDD", 5: "dddd"}), dead, bytesOf(four, map[int]int{2: 19}, map[int]string{2: "DDDD"}),
				bytesOf(four, map[int]int{2: 19, 5: 22}, map[int]string{2: "DDDD", 5: "dddd", 6: "eeee"}))},
		{"of the last two", memOf(0, impl.Space{}, liveSpace(four, map[int]string{3: "f1o"}), impl.Space{}, liveSpace(four, map[int]string{3: "f0o"}), liveSpace(four, map[int]string{3: "f0o"})),
			meaning(dead, bytesOf(four, nil, map[int]string{3: "BBBB"}), dead, bytesOf(four, map[int]int{3: 52}, map[int]string{3: "AAAA"}), bytesOf(four, map[int]int{3: 52}, map[int]string{3: "AAAA"}))},
		{"the same place of memory and of swap", memOf(0, liveSpace(four, map[int]string{2: "f7o"}), liveSpace(four, map[int]string{2: "s7o"})),
			meaning(bytesOf(four, nil, map[int]string{2: "HHHH"}), bytesOf(four, nil, map[int]string{2: "hhhh"}))},
		{"of unlike pages", memOf(0, liveSpace(four, map[int]string{6: "f0o"}), liveSpace(four, map[int]string{2: "f0o"}), liveSpace(four, map[int]string{3: "f1o", 2: "f0o"}), liveSpace(four, map[int]string{2: "f1o"})),
			meaning(bytesOf(four, map[int]int{6: 7}, map[int]string{6: "AAAA"}), bytesOf(four, map[int]int{2: 7}, map[int]string{2: "AAAA"}),
				bytesOf(four, map[int]int{2: 7, 3: 36}, map[int]string{2: "AAAA", 3: "BBBB"}), bytesOf(four, map[int]int{2: 36}, map[int]string{2: "BBBB"}))},
		{"of two pages of a space", memOf(0, impl.Space{}, liveSpace(four, map[int]string{3: "f0o", 5: "f0ou"})), meaning(dead, bytesOf(four, map[int]int{3: 20, 5: 20}, map[int]string{3: "AAAA", 5: "AAAA"}))},
	} {
		wantMeans(t, x.name, x.mem, x.want)
	}
}

// The first space that has a page is dropped, or cuts it out: its Group is told by the next one, and is none if just one is left.
func TestGroupsBehindDropAndCut(t *testing.T) {
	list := []impl.Area{shared(2, 1), writable(4, 1)}
	one := liveSpace(list, map[int]string{2: "f5o", 4: "f6"})
	texts := map[int]string{2: "FFFF", 4: "GGGG"}
	of := func(g int) impl.BytesOf { return bytesOf(list, map[int]int{2: g}, texts) }
	m := memOf(0, one, one, impl.Space{}, one)
	wantMeans(t, "of three", m, meaning(of(3), of(3), impl.BytesOf{}, of(3)))
	dropped, _ := impl.MemDrop(m, 0)
	wantMeans(t, "without the first one", dropped, meaning(impl.BytesOf{}, of(19), impl.BytesOf{}, of(19)))
	alone, _ := impl.MemDrop(dropped, 1)
	wantMeans(t, "with just the last one", alone, meaning(impl.BytesOf{}, impl.BytesOf{}, impl.BytesOf{}, of(0)))
	cut, _ := impl.MemCut(m, 0, 2, 1)
	less := bytesOf([]impl.Area{writable(4, 1)}, nil, map[int]string{4: "GGGG"})
	wantMeans(t, "cut out of the first one", cut, meaning(less, of(19), impl.BytesOf{}, of(19)))
	forked, _, _ := impl.MemFork(dropped, 3)
	wantMeans(t, "forked to the first space", forked, meaning(of(3), of(3), impl.BytesOf{}, of(3)))
	wantForkOf(t, "to the first space", meaning(impl.BytesOf{}, of(19), impl.BytesOf{}, of(19)), 3, meaning(of(3), of(3), impl.BytesOf{}, of(3)))
}

// Promise 29, with bytes that are written out.
func TestBytesGetCases(t *testing.T) {
	b := changed(fiveBytes(), text(0, 2, "\x00\x7f\x80\xff"), text(0, 7, "abc"), text(2, 0, "none"), text(3, 8, "abcde"))
	for _, x := range []struct{ who, addr, v, code int }{
		{0, 4, 'p', impl.MemFine}, {0, 7, 'v', impl.MemFine}, {0, 8, 0, impl.MemFine}, {0, 9, 127, impl.MemFine}, {0, 10, 128, impl.MemFine}, {0, 11, 255, impl.MemFine},
		{0, 12, 0, impl.MemFine}, {0, 16, 'f', impl.MemFine}, {0, 37, 'e', impl.MemFine}, {0, 63, 0, impl.MemFine}, {2, 63, 't', impl.MemFine}, {3, 0, 'z', impl.MemFine}, {3, 63, '.', impl.MemFine},
		{0, 0, -1, impl.MemNone}, {0, 3, -1, impl.MemNone}, {0, 32, -1, impl.MemNone}, {0, 40, -1, impl.MemNone}, {2, 1, -1, impl.MemNone},
		{0, 28, -1, impl.MemNone}, {0, 31, -1, impl.MemNone}, {3, 32, -1, impl.MemNone}, {3, 35, -1, impl.MemNone},
		{0, -1, -1, impl.MemBad}, {0, 64, -1, impl.MemBad}, {3, 64, -1, impl.MemBad}, {1, 4, -1, impl.MemBad}, {4, 0, -1, impl.MemBad}, {5, 0, -1, impl.MemBad}, {-1, 0, -1, impl.MemBad},
	} {
		if v, code := impl.BytesGet(b, x.who, x.addr); v != x.v || code != x.code {
			t.Errorf("BytesGet of %d of space %d told %d, %d, want %d, %d", x.addr, x.who, v, code, x.v, x.code)
		}
	}
}

// Promise 30, with texts that are written out.
func TestBytesSetCases(t *testing.T) {
	b := fiveBytes()
	odd := changed(b, groups(0, -8, 1, 7, 9), groups(2, -8, 0, 1), groups(3, -8, 8), text(0, 3, "abc"), text(0, 9, "abcde"), text(2, 12, ""), text(2, 2, "\x00\x00\x00"))
	for _, x := range []struct {
		name string
		from impl.Views
		who  int
		addr int
		v    int
		code int
		then []viewsEdit
	}{
		{"private", b, 0, 4, 'z', impl.MemFine, []viewsEdit{text(0, 1, "zriv")}},
		{"the same page of another one", b, 2, 7, 0, impl.MemFine, []viewsEdit{text(2, 1, "min\x00")}},
		{"of zero bytes", b, 0, 10, 255, impl.MemFine, []viewsEdit{text(0, 2, "\x00\x00\xff\x00")}},
		{"what was there", b, 0, 4, 'p', impl.MemFine, nil},
		{"the first address", b, 3, 0, '0', impl.MemFine, []viewsEdit{text(3, 0, "0ero")}},
		{"the last address", b, 3, 63, '!', impl.MemFine, []viewsEdit{text(3, 15, "end!")}},
		{"of three", b, 2, 17, 'i', impl.MemFine, []viewsEdit{text(0, 4, "fiur"), text(2, 4, "fiur"), text(3, 4, "fiur")}},
		{"of the first one and the last one", b, 3, 20, 'g', impl.MemFine, []viewsEdit{text(0, 5, "give"), text(3, 5, "give")}},
		{"of the last two", b, 2, 27, 't', impl.MemFine, []viewsEdit{text(2, 6, "sixt"), text(3, 6, "sixt")}},
		{"Shared, of one", b, 2, 28, 7, impl.MemFine, []viewsEdit{text(2, 7, "\x07\x00\x00\x00")}},
		{"only read", b, 0, 36, 'z', impl.MemRead, nil},
		{"only read, of two", b, 2, 48, 'z', impl.MemRead, nil},
		{"in no area", b, 0, 3, 'z', impl.MemNone, nil},
		{"in no area, between", b, 2, 47, 'z', impl.MemNone, nil},
		{"one Group of unlike pages, private and Shared, in an area and in none, of any size", odd, 2, 5, 'u', impl.MemFine,
			[]viewsEdit{text(0, 1, "mune"), text(0, 7, "mune"), text(0, 9, "mune"), text(2, 0, "mune"), text(2, 1, "mune"), text(3, 8, "mune")}},
		{"a text of three bytes", odd, 0, 12, 'z', impl.MemNone, nil},
		{"a text of three zero bytes", odd, 2, 8, 'z', impl.MemNone, nil},
		{"a text of five bytes, only read", odd, 0, 36, 'z', impl.MemNone, nil},
		{"no text, only read", odd, 2, 48, 'z', impl.MemNone, nil},
	} {
		got, code := impl.BytesSet(x.from, x.who, x.addr, x.v)
		wantViewsCode(t, "BytesSet, "+x.name, got, code, changed(x.from, x.then...), x.code)
	}
	for _, x := range []struct{ who, addr, v int }{{1, 4, 0}, {4, 4, 0}, {5, 4, 0}, {-1, 4, 0}, {0, -1, 0}, {0, 64, 0}, {0, 4, -1}, {0, 4, 256}, {0, 0, 256}, {0, 36, -1}} {
		got, code := impl.BytesSet(b, x.who, x.addr, x.v)
		wantViewsCode(t, "BytesSet of what is not valid", got, code, impl.Views{}, impl.MemBad)
	}
}

// Promise 30: which spaces are live tells where one may write, and not whose pages of the same Group get the text.
func TestBytesSetSetsPagesOfAnySpace(t *testing.T) {
	told := []viewsEdit{text(0, 4, "Four"), text(2, 4, "Four"), text(3, 4, "Four")}
	too := append(slices.Clone(told), text(1, 4, "Four"))
	for _, x := range []struct {
		name string
		odd  viewsEdit
		then []viewsEdit
	}{
		{"not told to be live", func(b *impl.Views) { b.Spaces[1].Live = false }, too},
		{"an area that is none", func(b *impl.Views) { b.Spaces[1].Areas[0].From = -1 }, too},
		{"areas descending", func(b *impl.Views) { slices.Reverse(b.Spaces[1].Areas) }, too},
		{"no areas", func(b *impl.Views) { b.Spaces[1].Areas = nil }, too},
		{"fifteen Groups", func(b *impl.Views) { b.Spaces[1].Group = b.Spaces[1].Group[:15] }, too},
		{"fifteen texts", func(b *impl.Views) { b.Spaces[1].Text = b.Spaces[1].Text[:15] }, too},
		{"a text less than Groups", func(b *impl.Views) { b.Spaces[1].Group, b.Spaces[1].Text = b.Spaces[1].Group[:6], b.Spaces[1].Text[:5] }, too},
		{"a Group less than texts", func(b *impl.Views) { b.Spaces[1].Group, b.Spaces[1].Text = b.Spaces[1].Group[:5], b.Spaces[1].Text[:6] }, too},
		{"no text of the page", func(b *impl.Views) { b.Spaces[1].Text = b.Spaces[1].Text[:4] }, told},
		{"no Group of the page", func(b *impl.Views) { b.Spaces[1].Group = b.Spaces[1].Group[:4] }, told},
		{"no texts", func(b *impl.Views) { b.Spaces[1].Text = nil }, told},
		{"no Groups", func(b *impl.Views) { b.Spaces[1].Group = nil }, told},
		{"another Group", groups(1, 6, 4), told},
		{"no Group", groups(1, 0, 4), told},
		{"an empty text", text(1, 4, ""), too},
		{"a text of five bytes, and not told to be live", func(b *impl.Views) { b.Spaces[1].Live, b.Spaces[1].Text[4] = false, "abcde" }, too},
		{"seventeen of both", func(b *impl.Views) {
			b.Spaces[1].Group, b.Spaces[1].Text = append(b.Spaces[1].Group, 5), append(b.Spaces[1].Text, "more")
		}, append(slices.Clone(too), text(1, 16, "Four"))},
	} {
		b := changed(fiveBytes(), bytesSpace(1, fiveBytes().Spaces[0]), x.odd)
		got, code := impl.BytesSet(b, 0, 16, 'F')
		wantViewsCode(t, "BytesSet beside a space with "+x.name, got, code, changed(b, x.then...), impl.MemFine)
	}
}

// Promise 30, with two spaces of which the second one is not live, for an area that has no page.
func TestBytesSetSetsPagesOfASpaceWithABadArea(t *testing.T) {
	first := bytesOf([]impl.Area{shared(0, 1)}, map[int]int{0: 1}, nil)
	second := bytesOf([]impl.Area{readShared(1, 0)}, map[int]int{0: 1}, map[int]string{0: zeroBytes})
	b := impl.Views{Spaces: []impl.BytesOf{first, second}}
	got, code := impl.BytesSet(b, 0, 1, 9)
	wantViewsCode(t, "BytesSet of two spaces", got, code, changed(b, text(0, 0, "\x00\x09\x00\x00"), text(1, 0, "\x00\x09\x00\x00")), impl.MemFine)
	got, code = impl.BytesSet(b, 1, 1, 9)
	wantViewsCode(t, "BytesSet of a space that is not live", got, code, impl.Views{}, impl.MemBad)
}

// Promise 31, with Groups that are written out.
func TestBytesForkCases(t *testing.T) {
	b := fiveBytes()
	of := func(g, h, i int) impl.BytesOf {
		return bytesOf([]impl.Area{shared(2, 2), writable(4, 1), readShared(7, 1)}, map[int]int{2: g, 3: h, 7: i}, map[int]string{2: "two!", 4: "priv"})
	}
	dead := impl.BytesOf{}
	for _, x := range []struct {
		name string
		from impl.Views
		who  int
		want impl.Views
	}{
		{"no areas", meaning(bytesOf(nil, nil, nil)), 0, meaning(bytesOf(nil, nil, nil), bytesOf(nil, nil, nil))},
		{"no Groups yet", meaning(of(0, 0, 0)), 0, meaning(of(3, 4, 8), of(3, 4, 8))},
		{"no Groups yet, to an earlier space", meaning(dead, dead, of(0, 0, 0)), 2, meaning(of(3, 4, 8), dead, of(3, 4, 8))},
		{"no Groups yet, to a later space", meaning(of(0, 0, 0), of(0, 0, 0)), 1, meaning(of(0, 0, 0), of(19, 20, 24), of(19, 20, 24))},
		{"some Groups", meaning(of(3, 0, 0), of(3, 0, 0)), 1, meaning(of(3, 0, 0), of(3, 20, 24), of(3, 20, 24))},
		{"some Groups, to an earlier space", meaning(dead, of(0, 20, 0), of(0, 20, 0)), 2, meaning(of(3, 4, 8), of(0, 4, 0), of(3, 4, 8))},
		{"all Groups", meaning(of(3, 4, 8), of(3, 4, 8)), 0, meaning(of(3, 4, 8), of(3, 4, 8), of(3, 4, 8))},
		{"Groups of others", meaning(of(0, 0, 0), dead, of(35, 36, 40), of(35, 36, 40)), 0, meaning(of(3, 4, 8), of(3, 4, 8), of(35, 36, 40), of(35, 36, 40))},
		{"to the last space", meaning(of(3, 4, 8), of(3, 4, 8), of(0, 0, 0), of(0, 0, 0)), 3, meaning(of(3, 4, 8), of(3, 4, 8), of(0, 0, 0), of(51, 52, 56), of(51, 52, 56))},
		{"the first one of five", b, 0, changed(b, groups(0, 7, 6), groups(0, 8, 7), groups(0, 14, 13), groups(0, 15, 14), groups(0, 16, 15), forkTo(0, 1))},
		{"the third one of five", b, 2, changed(b, groups(2, 22, 5), groups(2, 23, 6), groups(3, 23, 6), groups(2, 24, 7), groups(2, 30, 13), groups(2, 31, 14), groups(2, 32, 15), forkTo(2, 1))},
		// What no memory has: Groups are told anew all the same, and new ones are not taken for those that were there.
		{"Groups of other numbers", meaning(of(-1, 99, 0), of(-1, 0, 99)), 0, meaning(of(3, 4, 8), of(3, 0, 4), of(3, 4, 8))},
		{"the number of a new Group", meaning(of(4, 0, 0), of(4, 8, 0)), 0, meaning(of(3, 4, 8), of(3, 0, 0), of(3, 4, 8))},
		{"the same Group twice in a space", meaning(of(5, 5, 0), of(0, 5, 7)), 0, meaning(of(3, 3, 8), of(0, 3, 0), of(3, 3, 8))},
		{"a space that is not live for its lists", meaning(of(0, 0, 0), impl.BytesOf{Live: true, Group: []int{3}}, of(3, 0, 0)), 0, meaning(of(3, 4, 8), of(3, 4, 8), of(0, 0, 0))},
	} {
		wantForkOf(t, x.name, x.from, x.who, x.want)
	}
	for _, x := range []struct {
		views impl.Views
		who   int
	}{{b, 1}, {b, 4}, {b, 5}, {b, -1}, {impl.Views{}, 0}, {meaning(), 0}, {meaning(of(0, 0, 0), of(0, 0, 0), of(0, 0, 0), of(0, 0, 0), of(0, 0, 0)), 0}} {
		if got, ok := impl.BytesFork(x.views, x.who); ok || !sameViews(got, impl.Views{}) {
			t.Errorf("BytesFork of what cannot be is %v, %s", ok, viewsText(got))
		}
	}
}

// forkTo makes a space a copy of another one.
func forkTo(who, child int) viewsEdit {
	return func(b *impl.Views) { b.Spaces[child] = cloneBytes(b.Spaces[who]) }
}

// A private page that no memory has in a Group is not shared by a fork.
func TestBytesForkOfPrivatePages(t *testing.T) {
	b := changed(fiveBytes(), groups(0, 9, 1), groups(2, 9, 3))
	forked, ok := impl.BytesFork(b, 0)
	if !ok {
		t.Fatalf("BytesFork is false")
	}
	got, code := impl.BytesSet(forked, 1, 4, 'P')
	wantViewsCode(t, "BytesSet of a private page of a fork", got, code, changed(forked, text(1, 1, "Priv")), impl.MemFine)
}
