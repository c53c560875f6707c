package tests

import (
	"slices"
	"testing"

	"loop.example/quarterdeck/impl"
)

// pagesCall is a call of a function of chapter 1, told by a text, with the pages that it returns, if any.
type pagesCall struct {
	name string
	do   func(p impl.Pages) impl.Pages
}

// pagesCalls calls each function that has pages as an argument, with each argument that is to be tried.
func pagesCalls() []pagesCall {
	list := []pagesCall{
		{"PagesOk", func(p impl.Pages) impl.Pages { impl.PagesOk(p); return impl.Pages{} }},
		{"PagesRoom", func(p impl.Pages) impl.Pages { impl.PagesRoom(p); return impl.Pages{} }},
	}
	for _, text := range textsToTry() {
		list = append(list, pagesCall{"PagesTake", func(p impl.Pages) impl.Pages { q, _, _ := impl.PagesTake(p, text); return q }})
	}
	for _, at := range placesToTry() {
		list = append(list,
			pagesCall{"PagesKeep", func(p impl.Pages) impl.Pages { q, _ := impl.PagesKeep(p, at); return q }},
			pagesCall{"PagesGive", func(p impl.Pages) impl.Pages { q, _ := impl.PagesGive(p, at); return q }},
			pagesCall{"PagesGet", func(p impl.Pages) impl.Pages { impl.PagesGet(p, at); return impl.Pages{} }})
		for _, k := range []int{-1, 0, 3, 4} {
			for _, b := range bytesToTry() {
				list = append(list, pagesCall{"PagesSet", func(p impl.Pages) impl.Pages { q, _ := impl.PagesSet(p, at, k, b); return q }})
			}
		}
	}
	return list
}

// roomyPages has the same places, and marks in the capacity behind them, which a call must leave alone, too.
func roomyPages(p impl.Pages) impl.Pages {
	text := append(slices.Clone(p.Text), "mark", "mark")
	refs := append(slices.Clone(p.Refs), 71, 72)
	return impl.Pages{Text: text[:len(p.Text)], Refs: refs[:len(p.Refs)]}
}

func wholePages(p impl.Pages) impl.Pages {
	return impl.Pages{Text: p.Text[:cap(p.Text)], Refs: p.Refs[:cap(p.Refs)]}
}

// scribblePages overwrites all that pages have, up to their capacity.
func scribblePages(p impl.Pages) {
	w := wholePages(p)
	for i := range w.Text {
		w.Text[i] = "scribbled"
	}
	for i := range w.Refs {
		w.Refs[i] = -7
	}
}

func allPages() []namedPages {
	return append(validPages(), invalidPages()...)
}

func TestPagesCallsDoNotPanic(t *testing.T) {
	try := func(x namedPages, c pagesCall) {
		defer func() {
			if r := recover(); r != nil {
				t.Errorf("%s of %s panicked: %v", c.name, x.name, r)
			}
		}()
		c.do(clonePages(x.pages))
	}
	for _, x := range allPages() {
		for _, c := range pagesCalls() {
			try(x, c)
		}
	}
}

func TestPagesArgumentsAreNotChanged(t *testing.T) {
	for _, x := range allPages() {
		for _, c := range pagesCalls() {
			p := roomyPages(x.pages)
			was := clonePages(wholePages(p))
			c.do(p)
			wantPages(t, c.name+" of "+x.name+" changed its argument", wholePages(p), was)
		}
	}
}

func TestPagesResultsShareNothingWithArguments(t *testing.T) {
	for _, x := range allPages() {
		for _, c := range pagesCalls() {
			p := roomyPages(x.pages)
			was := clonePages(wholePages(p))
			scribblePages(c.do(p))
			wantPages(t, c.name+" of "+x.name+": the argument is in the result", wholePages(p), was)
			q := c.do(p)
			told := clonePages(q)
			scribblePages(p)
			wantPages(t, c.name+" of "+x.name+": the result is in the argument", q, told)
		}
	}
}

func TestPagesNewSharesNothing(t *testing.T) {
	for n := 1; n <= 12; n++ {
		p, _ := impl.PagesNew(n)
		scribblePages(p)
		q, _ := impl.PagesNew(n)
		wantPages(t, "PagesNew behind another one was changed", q, impl.Pages{Text: make([]string, n), Refs: make([]int, n)})
	}
}

func TestPagesResultsAreTheSameEachTime(t *testing.T) {
	for _, x := range allPages() {
		for _, c := range pagesCalls() {
			wantPages(t, c.name+" of "+x.name+" again", c.do(clonePages(x.pages)), c.do(clonePages(x.pages)))
		}
	}
}
