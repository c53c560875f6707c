package impl

// PageSize is the number of bytes of a page.
const PageSize = 4

// FrameMax is the number of pages of memory.
const FrameMax = 12

// SwapMax is the number of pages of swap.
const SwapMax = 12

// Pages is pages with counts of those that refer to them.
type Pages struct {
	Text []string
	Refs []int
}

// refMax is the greatest number of those that refer to a place.
const refMax = 99

// byteMax is the greatest byte.
const byteMax = 255

// page is what is in a place of pages; a free place has the zero value.
type page struct {
	text string
	refs int
}

// free reports whether nobody refers to a page, and it has no text.
func (g page) free() bool {
	return g == page{}
}

// ok reports whether a page may be in a place.
func (g page) ok() bool {
	return g.free() || g.refs >= 1 && g.refs <= refMax && len(g.text) == PageSize
}

// in returns what is in a place that there is.
func (p Pages) in(at int) page {
	return page{text: p.Text[at], refs: p.Refs[at]}
}

// taken returns what is in a place of valid pages that is not free, and true; for all else it fails.
func (p Pages) taken(at int) (page, bool) {
	if !PagesOk(p) || at < 0 || at >= len(p.Refs) {
		return page{}, false
	}
	g := p.in(at)
	return g, !g.free()
}

// with returns a copy of the pages, since a result shares nothing with p, in which another page is in a place.
func (p Pages) with(at int, g page) Pages {
	text := make([]string, len(p.Text))
	copy(text, p.Text)
	text[at] = g.text
	refs := make([]int, len(p.Refs))
	copy(refs, p.Refs)
	refs[at] = g.refs
	return Pages{Text: text, Refs: refs}
}

// textWith returns a text in which the byte at a place that there is is another one.
func textWith(text string, k int, b int) string {
	bytes := []byte(text)
	bytes[k] = byte(b)
	return string(bytes)
}

// placesFit reports whether pages may have so many places.
func placesFit(n int) bool {
	return n >= 1 && n <= max(FrameMax, SwapMax)
}

// PagesNew returns so many free places, and true.
func PagesNew(n int) (Pages, bool) {
	if !placesFit(n) {
		return Pages{}, false
	}
	return Pages{Text: make([]string, n), Refs: make([]int, n)}, true
}

// PagesOk reports whether pages are valid.
func PagesOk(p Pages) bool {
	if len(p.Text) != len(p.Refs) || !placesFit(len(p.Refs)) {
		return false
	}
	for at := range p.Refs {
		if !p.in(at).ok() {
			return false
		}
	}
	return true
}

// PagesRoom returns how many places are free, or -1 if the pages are not valid.
func PagesRoom(p Pages) int {
	if !PagesOk(p) {
		return -1
	}
	room := 0
	for at := range p.Refs {
		if p.in(at).free() {
			room++
		}
	}
	return room
}

// PagesTake returns the pages in which the first free place has a text and one that refers to it, the place, and true.
func PagesTake(p Pages, text string) (Pages, int, bool) {
	if !PagesOk(p) || len(text) != PageSize {
		return Pages{}, -1, false
	}
	for at := range p.Refs {
		if p.in(at).free() {
			return p.with(at, page{text: text, refs: 1}), at, true
		}
	}
	return Pages{}, -1, false
}

// PagesKeep returns the pages with one more that refers to a place that is not free, and true.
func PagesKeep(p Pages, at int) (Pages, bool) {
	g, ok := p.taken(at)
	if !ok || g.refs == refMax {
		return Pages{}, false
	}
	g.refs++
	return p.with(at, g), true
}

// PagesGive returns the pages with one less that refers to a place that is not free, and true.
func PagesGive(p Pages, at int) (Pages, bool) {
	g, ok := p.taken(at)
	if !ok {
		return Pages{}, false
	}
	g.refs--
	if g.refs == 0 {
		g = page{}
	}
	return p.with(at, g), true
}

// PagesGet returns the text of a place that is not free, and true.
func PagesGet(p Pages, at int) (string, bool) {
	g, ok := p.taken(at)
	return g.text, ok
}

// PagesSet returns the pages in which the byte at a place of the text of a page that is not free is another one, and true.
func PagesSet(p Pages, at int, k int, b int) (Pages, bool) {
	g, ok := p.taken(at)
	if !ok || k < 0 || k >= PageSize || b < 0 || b > byteMax {
		return Pages{}, false
	}
	g.text = textWith(g.text, k, b)
	return p.with(at, g), true
}
