package tests

import (
	"slices"
	"testing"

	"loop.example/quarterdeck/impl"
)

// areasCall is a call of a function of chapter 2, told by a text, with the areas that it returns, if any.
type areasCall struct {
	name string
	do   func(list []impl.Area) []impl.Area
}

// areasCalls calls each function that has areas as an argument, with each argument that is to be tried.
func areasCalls() []areasCall {
	list := []areasCall{
		{"AreasOk", func(list []impl.Area) []impl.Area { impl.AreasOk(list); return nil }},
		{"AreasPages", func(list []impl.Area) []impl.Area { impl.AreasPages(list); return nil }},
		{"AreaOk", func(list []impl.Area) []impl.Area {
			for _, a := range list {
				impl.AreaOk(a)
			}
			return nil
		}},
	}
	for _, page := range pagesToTry() {
		list = append(list, areasCall{"AreasAt", func(list []impl.Area) []impl.Area { impl.AreasAt(list, page); return nil }})
	}
	for _, a := range append(validRanges(), invalidRanges()...) {
		list = append(list,
			areasCall{"AreasAdd", func(list []impl.Area) []impl.Area { got, _ := impl.AreasAdd(list, a); return got }},
			areasCall{"AreasCut", func(list []impl.Area) []impl.Area { got, _ := impl.AreasCut(list, a.From, a.Many); return got }},
			areasCall{"AreasSet to read", func(list []impl.Area) []impl.Area { got, _ := impl.AreasSet(list, a.From, a.Many, false); return got }},
			areasCall{"AreasSet to write", func(list []impl.Area) []impl.Area { got, _ := impl.AreasSet(list, a.From, a.Many, true); return got }})
	}
	return list
}

// roomyAreas has the same areas, and marks in the capacity behind them, which a call must leave alone, too.
func roomyAreas(list []impl.Area) []impl.Area {
	roomy := append(slices.Clone(list), area(71, 72), area(73, 74), area(75, 76))
	return roomy[:len(list)]
}

// scribbleAreas overwrites all areas of a list, up to its capacity.
func scribbleAreas(list []impl.Area) {
	whole := list[:cap(list)]
	for i := range whole {
		whole[i] = shared(-7, -7)
	}
}

func allAreas() []namedAreas {
	return append(validAreas(), invalidAreas()...)
}

func TestAreasCallsDoNotPanic(t *testing.T) {
	try := func(x namedAreas, c areasCall) {
		defer func() {
			if r := recover(); r != nil {
				t.Errorf("%s of %s panicked: %v", c.name, x.name, r)
			}
		}()
		c.do(slices.Clone(x.list))
	}
	for _, x := range allAreas() {
		for _, c := range areasCalls() {
			try(x, c)
		}
	}
}

func TestAreasArgumentsAreNotChanged(t *testing.T) {
	for _, x := range allAreas() {
		for _, c := range areasCalls() {
			list := roomyAreas(x.list)
			was := slices.Clone(list[:cap(list)])
			c.do(list)
			wantAreas(t, c.name+" of "+x.name+" changed its argument", list[:cap(list)], was)
		}
	}
}

func TestAreasResultsShareNothingWithArguments(t *testing.T) {
	for _, x := range allAreas() {
		for _, c := range areasCalls() {
			list := roomyAreas(x.list)
			was := slices.Clone(list[:cap(list)])
			scribbleAreas(c.do(list))
			wantAreas(t, c.name+" of "+x.name+": the argument is in the result", list[:cap(list)], was)
			got := c.do(list)
			told := slices.Clone(got)
			scribbleAreas(list)
			wantAreas(t, c.name+" of "+x.name+": the result is in the argument", got, told)
		}
	}
}

func TestAreasResultsShareNothingWithEachOther(t *testing.T) {
	for _, x := range allAreas() {
		for _, c := range areasCalls() {
			one, two := c.do(x.list), c.do(x.list)
			told := slices.Clone(two)
			wantAreas(t, c.name+" of "+x.name+" again", one, two)
			scribbleAreas(one)
			wantAreas(t, c.name+" of "+x.name+": a result is in another one", two, told)
		}
	}
}
