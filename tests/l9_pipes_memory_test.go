package tests

import (
	"fmt"
	"reflect"
	"strings"
	"testing"

	"loop.example/quarterdeck/impl"
)

// pipeAnswer is what a call of chapter 9 returns, as far as it returns it.
type pipeAnswer struct {
	pipe    impl.Pipe
	n, code int
	text    string
	ok, may bool
}

// pipeCall is a call of a function of chapter 9, told by a text.
type pipeCall struct {
	name string
	do   func(p impl.Pipe) pipeAnswer
}

// sideCalls are those of one who joins or leaves.
func sideCalls(reads bool) []pipeCall {
	return []pipeCall{
		{fmt.Sprintf("PipeJoin %v", reads), func(p impl.Pipe) pipeAnswer {
			q, ok := impl.PipeJoin(p, reads)
			return pipeAnswer{pipe: q, ok: ok}
		}},
		{fmt.Sprintf("PipeLeave %v", reads), func(p impl.Pipe) pipeAnswer {
			q, ok := impl.PipeLeave(p, reads)
			return pipeAnswer{pipe: q, ok: ok}
		}},
	}
}

// pipeCalls calls each function, with each argument that is to be tried.
func pipeCalls() []pipeCall {
	list := append(sideCalls(true), sideCalls(false)...)
	list = append(list,
		pipeCall{"PipeOk", func(p impl.Pipe) pipeAnswer { return pipeAnswer{ok: impl.PipeOk(p)} }},
		pipeCall{"PipeReady", func(p impl.Pipe) pipeAnswer {
			take, put := impl.PipeReady(p)
			return pipeAnswer{ok: take, may: put}
		}})
	for _, text := range textsToPut() {
		list = append(list, pipeCall{fmt.Sprintf("PipePut of %d bytes", len(text)), func(p impl.Pipe) pipeAnswer {
			q, n, code := impl.PipePut(p, text)
			return pipeAnswer{pipe: q, n: n, code: code}
		}})
	}
	for _, many := range numbersToTake() {
		list = append(list, pipeCall{fmt.Sprintf("PipeTake of %d", many), func(p impl.Pipe) pipeAnswer {
			q, text, code := impl.PipeTake(p, many)
			return pipeAnswer{pipe: q, text: text, code: code}
		}})
	}
	return list
}

func TestPipeCallsDoNotPanic(t *testing.T) {
	try := func(name string, do func()) {
		defer func() {
			if r := recover(); r != nil {
				t.Errorf("%s panicked: %v", name, r)
			}
		}()
		do()
	}
	calls := pipeCalls()
	for _, x := range allPipes() {
		for _, c := range calls {
			try(c.name+" of "+x.name, func() { c.do(x.pipe) })
		}
	}
	for _, readers := range noSides() {
		for _, writers := range noSides() {
			for _, c := range calls {
				p := pipeOf(flowText(0, 9), readers, writers)
				try(c.name+" of "+pipeText(p), func() { c.do(p) })
			}
		}
	}
	great := strings.Repeat("x", 10000000)
	for _, x := range fewPipes() {
		try("PipePut of many bytes to "+x.name, func() { impl.PipePut(x.pipe, great) })
	}
}

// plain tells whether values of a type are copied whole, so that no two share memory that one could change, and none has a capacity.
func plain(t reflect.Type) bool {
	switch t.Kind() {
	case reflect.Int, reflect.Bool, reflect.String:
		return true
	case reflect.Struct:
		for k := range t.NumField() {
			if !plain(t.Field(k).Type) {
				return false
			}
		}
		return true
	}
	return false
}

func TestPipeArgumentsAndResultsArePlain(t *testing.T) {
	for _, f := range []any{impl.PipeOk, impl.PipePut, impl.PipeTake, impl.PipeJoin, impl.PipeLeave, impl.PipeReady} {
		of := reflect.TypeOf(f)
		for k := range of.NumIn() {
			if !plain(of.In(k)) {
				t.Errorf("the argument %d of %v is not plain", k, of)
			}
		}
		for k := range of.NumOut() {
			if !plain(of.Out(k)) {
				t.Errorf("the result %d of %v is not plain", k, of)
			}
		}
	}
}

func TestPipeArgumentsAreNotChanged(t *testing.T) {
	calls := pipeCalls()
	for _, x := range allPipes() {
		p := pipeOf(strings.Clone(x.pipe.Text), x.pipe.Readers, x.pipe.Writers)
		for _, c := range calls {
			c.do(p)
			wantPipe(t, c.name+" of "+x.name+" changed its argument", p, x.pipe)
		}
	}
	for _, x := range fewPipes() {
		for _, size := range sizesToPut() {
			text := flowText(0, size)
			impl.PipePut(x.pipe, text)
			if text != flowText(0, size) {
				t.Fatalf("PipePut to %s changed its text of %d bytes", x.name, size)
			}
		}
	}
}

// What was told stays what it was, whatever is called behind it, and is told again by each call of the same.
func TestPipeResultsAreTheSameEachTime(t *testing.T) {
	calls := pipeCalls()
	few := append(fewPipes(), invalidPipes()[:20]...)
	for _, x := range few {
		told := []pipeAnswer{}
		for _, c := range calls {
			a := c.do(x.pipe)
			told = append(told, a)
			for _, next := range calls {
				next.do(a.pipe)
			}
		}
		for k := len(calls) - 1; k >= 0; k-- {
			if got := calls[k].do(x.pipe); got != told[k] {
				t.Fatalf("%s of %s told %v, and then %v", calls[k].name, x.name, told[k], got)
			}
		}
	}
}

// From one pipe two ways are gone on, and neither one sees what goes on the other one.
func TestPipeResultsShareNothingWithEachOther(t *testing.T) {
	for _, x := range fewPipes() {
		one, n, code := impl.PipePut(x.pipe, "Q")
		if code != 0 || n != 1 {
			continue
		}
		two, _, _ := impl.PipePut(x.pipe, "Z")
		wantPipe(t, x.name+": PipePut of Q, and then of Z to the same", one, pipeOf(x.pipe.Text+"Q", x.pipe.Readers, x.pipe.Writers))
		wantPipe(t, x.name+": PipePut of Z, behind that of Q to the same", two, pipeOf(x.pipe.Text+"Z", x.pipe.Readers, x.pipe.Writers))
		left, text, _ := impl.PipeTake(one, 1)
		impl.PipePut(left, "YYYY")
		impl.PipeTake(left, 8)
		if text+left.Text != one.Text {
			t.Fatalf("%s: PipeTake told %q and left %q of %q", x.name, text, left.Text, one.Text)
		}
	}
}
