package tests

import (
	"slices"

	"loop.example/quarterdeck/impl"
)

// isLiveBytes reports, without the program, whether a space of a meaning is live.
func isLiveBytes(b impl.Views, who int) bool {
	if who < 0 || who >= len(b.Spaces) {
		return false
	}
	s := b.Spaces[who]
	return s.Live && len(s.Group) == 16 && len(s.Text) == 16 && spaceIsValid(impl.Space{Areas: s.Areas, Slots: make([]impl.Slot, 16)})
}

// firstDeadBytes is the first space of a meaning that is not live, or -1.
func firstDeadBytes(b impl.Views) int {
	for who := range b.Spaces {
		if !isLiveBytes(b, who) {
			return who
		}
	}
	return -1
}

// areaOfBytes finds the area of a live space that has a page, without the program.
func areaOfBytes(s impl.BytesOf, page int) (impl.Area, bool) {
	return areaOf(impl.Space{Areas: s.Areas}, page)
}

// readBytes is the byte and the code that BytesGet has to return.
func readBytes(b impl.Views, who, addr int) (int, int) {
	if !isLiveBytes(b, who) || addr < 0 || addr > 63 {
		return -1, impl.MemBad
	}
	s := b.Spaces[who]
	if _, ok := areaOfBytes(s, addr/4); !ok || len(s.Text[addr/4]) != 4 {
		return -1, impl.MemNone
	}
	return int(s.Text[addr/4][addr%4]), impl.MemFine
}

// inGroup reports whether a page of any space is the one of a live space that is told, or has its Group, and a text.
func inGroup(b impl.Views, who, page, other, otherPage int) bool {
	if who == other && page == otherPage {
		return true
	}
	s := b.Spaces[other]
	if otherPage >= len(s.Group) || otherPage >= len(s.Text) {
		return false
	}
	g := b.Spaces[who].Group[page]
	return g != 0 && s.Group[otherPage] == g
}

// writeBytes is the meaning and the code that BytesSet has to return.
func writeBytes(b impl.Views, who, addr, v int) (impl.Views, int) {
	_, code := readBytes(b, who, addr)
	if code == impl.MemBad || v < 0 || v > 255 {
		return impl.Views{}, impl.MemBad
	}
	if code == impl.MemNone {
		return b, code
	}
	page := addr / 4
	if a, _ := areaOfBytes(b.Spaces[who], page); !a.Write {
		return b, impl.MemRead
	}
	bytes := []byte(b.Spaces[who].Text[page])
	bytes[addr%4] = byte(v)
	out := cloneViews(b)
	for other := range b.Spaces {
		for p := range b.Spaces[other].Text {
			if inGroup(b, who, page, other, p) {
				out.Spaces[other].Text[p] = string(bytes)
			}
		}
	}
	return out, impl.MemFine
}

// bytesPage is a page of a space of a meaning.
type bytesPage struct {
	who, page int
}

// sharedPages are the pages of Shared areas of live spaces, ascending.
func sharedPages(b impl.Views) []bytesPage {
	list := []bytesPage{}
	for who, s := range b.Spaces {
		for page := range 16 {
			if !isLiveBytes(b, who) {
				break
			}
			if a, _ := areaOfBytes(s, page); a.Shared {
				list = append(list, bytesPage{who, page})
			}
		}
	}
	return list
}

// forkBytes is the meaning that BytesFork of a live space has to return, where one is not live.
func forkBytes(b impl.Views, who int) impl.Views {
	child := firstDeadBytes(b)
	out := cloneViews(b)
	out.Spaces[child] = cloneBytes(b.Spaces[who])
	same := func(x, y bytesPage) bool {
		if x.who == child {
			x.who = who
		}
		if y.who == child {
			y.who = who
		}
		return inGroup(b, x.who, x.page, y.who, y.page)
	}
	pages := sharedPages(out)
	for other := range out.Spaces {
		if isLiveBytes(out, other) {
			clear(out.Spaces[other].Group)
		}
	}
	for k, x := range pages {
		first := slices.IndexFunc(pages, func(y bytesPage) bool { return same(x, y) })
		again := slices.IndexFunc(pages[k+1:], func(y bytesPage) bool { return same(x, y) })
		if first < k || again >= 0 {
			out.Spaces[x.who].Group[x.page] = 1 + 16*pages[first].who + pages[first].page
		}
	}
	return out
}
