package tests

import (
	"fmt"
	"slices"
	"testing"

	"loop.example/quarterdeck/impl"
)

// viewsCall is a call of a function of chapter 4 that has a meaning as an argument, told by a text, with the meaning that it returns, if any.
type viewsCall struct {
	name string
	do   func(b impl.Views) impl.Views
}

// viewsCalls calls each function that has a meaning as an argument, with arguments of which some are valid and some not.
func viewsCalls(whos, addrs, bytes []int) []viewsCall {
	list := []viewsCall{
		{"BytesSame with itself", func(b impl.Views) impl.Views { impl.BytesSame(b, b); return impl.Views{} }},
		{"BytesSame with another one", func(b impl.Views) impl.Views {
			impl.BytesSame(b, fiveBytes())
			impl.BytesSame(fiveBytes(), b)
			return impl.Views{}
		}},
	}
	for _, who := range whos {
		list = append(list, viewsCall{fmt.Sprintf("BytesFork(%d)", who), func(b impl.Views) impl.Views { n, _ := impl.BytesFork(b, who); return n }})
		for _, addr := range addrs {
			list = append(list, viewsCall{fmt.Sprintf("BytesGet(%d, %d)", who, addr), func(b impl.Views) impl.Views { impl.BytesGet(b, who, addr); return impl.Views{} }})
			for _, v := range bytes {
				list = append(list, viewsCall{fmt.Sprintf("BytesSet(%d, %d, %d)", who, addr, v), func(b impl.Views) impl.Views { n, _ := impl.BytesSet(b, who, addr, v); return n }})
			}
		}
	}
	return list
}

// fewViewsCalls are enough to see what a call does to its argument.
func fewViewsCalls() []viewsCall {
	return viewsCalls([]int{-1, 0, 1, 2, 3, 5}, []int{-1, 0, 6, 17, 37, 63, 64}, []int{-1, 200})
}

// roomyViews is the same meaning with marks in the capacity behind each list, which a call must leave alone, too.
func roomyViews(b impl.Views) impl.Views {
	n := impl.Views{}
	for _, s := range b.Spaces {
		told, texts := append(slices.Clone(s.Group), 71, 72), append(slices.Clone(s.Text), "mark", "mark")
		s.Areas, s.Group, s.Text = roomyAreas(s.Areas), told[:len(s.Group)], texts[:len(s.Text)]
		n.Spaces = append(n.Spaces, s)
	}
	spaces := append(n.Spaces, bytesOf(sixAreas(), nil, nil), impl.BytesOf{})
	n.Spaces = spaces[:len(b.Spaces)]
	return n
}

// wholeViews has all that lists have up to their capacity.
func wholeViews(b impl.Views) impl.Views {
	n := impl.Views{}
	for _, s := range b.Spaces[:cap(b.Spaces)] {
		s.Areas, s.Group, s.Text = s.Areas[:cap(s.Areas)], s.Group[:cap(s.Group)], s.Text[:cap(s.Text)]
		n.Spaces = append(n.Spaces, s)
	}
	return n
}

// scribbleViews overwrites all that a meaning has, up to the capacity of its lists.
func scribbleViews(b impl.Views) {
	spaces := b.Spaces[:cap(b.Spaces)]
	for who, s := range spaces {
		scribbleAreas(s.Areas)
		told, texts := s.Group[:cap(s.Group)], s.Text[:cap(s.Text)]
		for page := range told {
			told[page] = -7
		}
		for page := range texts {
			texts[page] = "other"
		}
		spaces[who] = impl.BytesOf{Live: !s.Live, Areas: []impl.Area{area(-7, -7)}, Group: []int{-7}}
	}
}

func TestMeaningCallsDoNotPanic(t *testing.T) {
	try := func(name string, do func()) {
		defer func() {
			if r := recover(); r != nil {
				t.Errorf("%s panicked: %v", name, r)
			}
		}()
		do()
	}
	calls := viewsCalls(whosToTry(), append(noAddresses(), fewAddresses()...), append(noBytes(), 0, 255))
	for _, x := range writtenViews() {
		for _, c := range calls {
			try(c.name+" of "+x.name, func() { c.do(x.views) })
		}
		for _, y := range writtenViews() {
			try("BytesSame of "+x.name+" and "+y.name, func() { impl.BytesSame(x.views, y.views) })
		}
	}
	for _, x := range allMems() {
		try("BytesOfMem of "+x.name, func() { impl.BytesOfMem(x.mem) })
	}
}

func TestMeaningArgumentsAreNotChanged(t *testing.T) {
	for _, x := range allViews() {
		b := roomyViews(x.views)
		was := cloneViews(wholeViews(b))
		for _, c := range fewViewsCalls() {
			c.do(b)
			wantViews(t, c.name+" of "+x.name+" changed its argument", wholeViews(b), was)
		}
	}
	for _, x := range allMems() {
		m := roomyMem(x.mem)
		was := cloneMem(wholeMem(m))
		impl.BytesOfMem(m)
		wantMem(t, "BytesOfMem of "+x.name+" changed its argument", wholeMem(m), was)
	}
}

func TestMeaningResultsShareNothingWithArguments(t *testing.T) {
	for _, x := range allViews() {
		for _, c := range fewViewsCalls() {
			b := roomyViews(x.views)
			was := cloneViews(wholeViews(b))
			scribbleViews(c.do(b))
			wantViews(t, c.name+" of "+x.name+": the argument is in the result", wholeViews(b), was)
			got := c.do(b)
			told := cloneViews(got)
			scribbleViews(b)
			wantViews(t, c.name+" of "+x.name+": the result is in the argument", got, told)
		}
	}
	for _, x := range allMems() {
		m := roomyMem(x.mem)
		was := cloneMem(wholeMem(m))
		b, _ := impl.BytesOfMem(m)
		scribbleViews(b)
		wantMem(t, "BytesOfMem of "+x.name+": the argument is in the result", wholeMem(m), was)
		b, _ = impl.BytesOfMem(m)
		told := cloneViews(b)
		scribbleMem(m)
		wantViews(t, "BytesOfMem of "+x.name+": the result is in the argument", b, told)
	}
}

// An answer is the same each time, though groups are told by a map.
func TestMeaningResultsAreTheSameEachTime(t *testing.T) {
	for _, x := range allViews() {
		for _, c := range fewViewsCalls() {
			one, two := c.do(x.views), c.do(x.views)
			told := cloneViews(two)
			wantViews(t, c.name+" of "+x.name+" again", one, two)
			scribbleViews(one)
			wantViews(t, c.name+" of "+x.name+": a result is in another one", two, told)
		}
	}
	for _, x := range validMems() {
		want := mustMean(t, x.name, x.mem)
		for range 20 {
			wantMeans(t, x.name+" again", x.mem, want)
		}
	}
	for who := range 5 {
		want, ok := impl.BytesFork(fiveBytes(), who)
		for range 200 {
			got, again := impl.BytesFork(fiveBytes(), who)
			wantViews(t, fmt.Sprintf("BytesFork again: %v, %v", ok, again), got, want)
		}
	}
}

// No two lists of one result are in the same memory, nor are those of spaces of which one was forked from the other.
func TestMeaningListsOfAResultAreApart(t *testing.T) {
	check := func(what string, b impl.Views) {
		lists, told, texts := [][]impl.Area{}, [][]int{}, [][]string{}
		for _, s := range b.Spaces {
			lists, told, texts = append(lists, s.Areas), append(told, s.Group), append(texts, s.Text)
		}
		if !listsApart(lists...) || !listsApart(told...) || !listsApart(texts...) {
			t.Fatalf("%s: lists of the result share memory", what)
		}
	}
	for _, x := range allViews() {
		for _, c := range fewViewsCalls() {
			check(c.name+" of "+x.name, c.do(x.views))
		}
	}
	for _, x := range allMems() {
		b, _ := impl.BytesOfMem(x.mem)
		check("BytesOfMem of "+x.name, b)
	}
}
