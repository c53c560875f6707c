package tests

import (
	"fmt"
	"math"
	"strings"
	"testing"

	"loop.example/quarterdeck/impl"
)

func TestPipeConstants(t *testing.T) {
	codes := []int{impl.FlowFine, impl.FlowBad, impl.FlowWait, impl.FlowEnd, impl.FlowBroken}
	if impl.PipeSize != 8 || fmt.Sprint(codes) != "[0 1 2 3 4]" {
		t.Errorf("PipeSize is %d and the codes are %v", impl.PipeSize, codes)
	}
}

func TestPipeOkCases(t *testing.T) {
	for _, x := range []struct {
		name string
		pipe impl.Pipe
		want bool
	}{
		{"gone", impl.Pipe{}, true},
		{"empty", pipeOf("", 1, 1), true},
		{"half full", pipeOf("abcd", 1, 1), true},
		{"full", pipeOf("abcdefgh", 1, 1), true},
		{"full of zero bytes", pipeOf("\x00\x00\x00\x00\x00\x00\x00\x00", 1, 1), true},
		{"full of bytes above 127", pipeOf("\xff\xfe\x80\x81\xff\xff\x90\xa0", 1, 1), true},
		{"full of runes", pipeOf("éééé", 1, 1), true},
		{"with readers and no writers", pipeOf("", 1, 0), true},
		{"with readers, bytes and no writers", pipeOf("abcdefgh", 1, 0), true},
		{"with writers and no readers", pipeOf("", 0, 1), true},
		{"99 of both", pipeOf("a", 99, 99), true},
		{"99 readers", pipeOf("a", 99, 0), true},
		{"99 writers", pipeOf("", 0, 99), true},
		{"a byte too many", pipeOf("abcdefghi", 1, 1), false},
		{"few runes, a byte too many", pipeOf("ééééa", 1, 1), false},
		{"many zero bytes", pipeOf(strings.Repeat("\x00", 256), 1, 1), false},
		{"a byte, gone", pipeOf("a", 0, 0), false},
		{"a byte and no readers", pipeOf("a", 0, 1), false},
		{"a zero byte and no readers", pipeOf("\x00", 0, 1), false},
		{"full and no readers", pipeOf("abcdefgh", 0, 99), false},
		{"a reader too many", pipeOf("", 100, 1), false},
		{"a writer too many", pipeOf("", 1, 100), false},
		{"-1 readers", pipeOf("", -1, 1), false},
		{"-1 writers", pipeOf("", 1, -1), false},
		{"-1 of both", pipeOf("", -1, -1), false},
		{"-1 readers and one writer, which are none together", pipeOf("", -1, 1), false},
		{"the greatest number of readers", pipeOf("", math.MaxInt, 1), false},
		{"the greatest number of writers", pipeOf("", 1, math.MaxInt), false},
		{"the least number of readers", pipeOf("", math.MinInt, 1), false},
		{"the least number of writers", pipeOf("", 1, math.MinInt), false},
	} {
		if impl.PipeOk(x.pipe) != x.want {
			t.Errorf("%s: PipeOk is %v", x.name, impl.PipeOk(x.pipe))
		}
	}
}

// How many bytes of a text of each size go, with as many free places as there can be, from 0 on; w is that one must wait.
func TestPipePutOfEachSizeWithEachRoom(t *testing.T) {
	for _, x := range []struct {
		size int
		goes string
	}{
		{0, "000000000"},
		{1, "w11111111"},
		{2, "ww2222222"},
		{3, "www333333"},
		{4, "wwww44444"},
		{5, "w12345555"},
		{6, "w12345666"},
		{7, "w12345677"},
		{8, "w12345678"},
		{9, "w12345678"},
		{16, "w12345678"},
		{256, "w12345678"},
		{257, "w12345678"},
		{1000000, "w12345678"},
	} {
		for room := range 9 {
			for _, sides := range [][2]int{{1, 1}, {99, 1}, {1, 99}, {99, 99}, {2, 3}} {
				p, text := pipeOf(flowText(7, 8-room), sides[0], sides[1]), flowText(2, x.size)
				n, need, want := int(x.goes[room]-'0'), 0, p
				if x.goes[room] == 'w' {
					n, need = 0, 2
				}
				want.Text += text[:n]
				got, told, code := impl.PipePut(p, text)
				wantPut(t, fmt.Sprintf("PipePut of %d bytes, with room for %d", x.size, room), got, told, code, want, n, need)
			}
		}
	}
}

func TestPipePutCases(t *testing.T) {
	for _, x := range []struct {
		name    string
		pipe    impl.Pipe
		text    string
		want    impl.Pipe
		n, code int
	}{
		{"to an empty one", pipeOf("", 1, 1), "abc", pipeOf("abc", 1, 1), 3, 0},
		{"behind what is there", pipeOf("abc", 1, 1), "de", pipeOf("abcde", 1, 1), 2, 0},
		{"a small one whole, full then", pipeOf("abcd", 1, 1), "efgh", pipeOf("abcdefgh", 1, 1), 4, 0},
		{"a small one with no room for all", pipeOf("abcde", 1, 1), "fghi", pipeOf("abcde", 1, 1), 0, 2},
		{"a small one with room for all but one", pipeOf("abcdefg", 1, 1), "hi", pipeOf("abcdefg", 1, 1), 0, 2},
		{"a longer one in part", pipeOf("abcde", 1, 1), "fghij", pipeOf("abcdefgh", 1, 1), 3, 0},
		{"a longer one, a byte of it", pipeOf("abcdefg", 1, 1), "hijkl", pipeOf("abcdefgh", 1, 1), 1, 0},
		{"a longer one whole", pipeOf("abc", 1, 1), "defgh", pipeOf("abcdefgh", 1, 1), 5, 0},
		{"a byte to a full one", pipeOf("abcdefgh", 1, 1), "i", pipeOf("abcdefgh", 1, 1), 0, 2},
		{"a longer one to a full one", pipeOf("abcdefgh", 1, 1), "ijklm", pipeOf("abcdefgh", 1, 1), 0, 2},
		{"many to a full one", pipeOf("abcdefgh", 1, 1), strings.Repeat("i", 100), pipeOf("abcdefgh", 1, 1), 0, 2},
		{"nothing to a full one", pipeOf("abcdefgh", 1, 1), "", pipeOf("abcdefgh", 1, 1), 0, 0},
		{"nothing to an empty one", pipeOf("", 1, 1), "", pipeOf("", 1, 1), 0, 0},
		{"nothing to one that nobody reads", pipeOf("", 0, 1), "", pipeOf("", 0, 1), 0, 4},
		{"a byte to one that nobody reads", pipeOf("", 0, 1), "a", pipeOf("", 0, 1), 0, 4},
		{"many to one that nobody reads", pipeOf("", 0, 99), "abcdefghi", pipeOf("", 0, 99), 0, 4},
		{"to one that is gone", pipeOf("", 0, 0), "a", impl.Pipe{}, 0, 1},
		{"nothing to one that is gone", pipeOf("", 0, 0), "", impl.Pipe{}, 0, 1},
		{"without writers", pipeOf("ab", 1, 0), "c", impl.Pipe{}, 0, 1},
		{"nothing, without writers", pipeOf("ab", 1, 0), "", impl.Pipe{}, 0, 1},
		{"to a full one without writers", pipeOf("abcdefgh", 99, 0), "c", impl.Pipe{}, 0, 1},
		{"to a pipe with a byte too many", pipeOf("abcdefghi", 1, 1), "j", impl.Pipe{}, 0, 1},
		{"nothing to a pipe with a byte too many", pipeOf("abcdefghi", 1, 1), "", impl.Pipe{}, 0, 1},
		{"to bytes that nobody reads", pipeOf("a", 0, 1), "b", impl.Pipe{}, 0, 1},
		{"to -1 readers", pipeOf("", -1, 1), "b", impl.Pipe{}, 0, 1},
		{"by 100 writers", pipeOf("", 1, 100), "b", impl.Pipe{}, 0, 1},
		{"zero bytes", pipeOf("\x00", 1, 1), "\x00\x00", pipeOf("\x00\x00\x00", 1, 1), 2, 0},
		{"bytes above 127", pipeOf("\xff\x80", 1, 1), "\xfe\x81\xff", pipeOf("\xff\x80\xfe\x81\xff", 1, 1), 3, 0},
		{"a rune in part", pipeOf("abcdefg", 1, 1), "éèà", pipeOf("abcdefg\xc3", 1, 1), 1, 0},
		{"a rune with room for its half", pipeOf("abcdefg", 1, 1), "é", pipeOf("abcdefg", 1, 1), 0, 2},
		{"two runes, which are small", pipeOf("abcde", 1, 1), "éè", pipeOf("abcde", 1, 1), 0, 2},
	} {
		got, n, code := impl.PipePut(x.pipe, x.text)
		wantPut(t, "PipePut, "+x.name, got, n, code, x.want, x.n, x.code)
	}
}

func TestPipeTakeCases(t *testing.T) {
	for _, x := range []struct {
		name string
		pipe impl.Pipe
		many int
		want impl.Pipe
		text string
		code int
	}{
		{"none", pipeOf("abc", 1, 1), 0, pipeOf("abc", 1, 1), "", 0},
		{"one", pipeOf("abc", 1, 1), 1, pipeOf("bc", 1, 1), "a", 0},
		{"all but one", pipeOf("abc", 1, 1), 2, pipeOf("c", 1, 1), "ab", 0},
		{"all", pipeOf("abc", 1, 1), 3, pipeOf("", 1, 1), "abc", 0},
		{"more", pipeOf("abc", 1, 1), 4, pipeOf("", 1, 1), "abc", 0},
		{"all of a full one", pipeOf("abcdefgh", 1, 1), 8, pipeOf("", 1, 1), "abcdefgh", 0},
		{"more than any pipe has", pipeOf("abcdefgh", 1, 1), 9, pipeOf("", 1, 1), "abcdefgh", 0},
		{"one of a full one", pipeOf("abcdefgh", 99, 99), 1, pipeOf("bcdefgh", 99, 99), "a", 0},
		{"the greatest number", pipeOf("abc", 1, 1), math.MaxInt, pipeOf("", 1, 1), "abc", 0},
		{"a number of many bits", pipeOf("abc", 1, 1), 1<<32 + 1, pipeOf("", 1, 1), "abc", 0},
		{"some, without writers", pipeOf("abc", 1, 0), 2, pipeOf("c", 1, 0), "ab", 0},
		{"all, without writers", pipeOf("abc", 1, 0), 9, pipeOf("", 1, 0), "abc", 0},
		{"none, without writers", pipeOf("abc", 1, 0), 0, pipeOf("abc", 1, 0), "", 0},
		{"none of an empty one", pipeOf("", 1, 1), 0, pipeOf("", 1, 1), "", 0},
		{"none of an empty one, without writers", pipeOf("", 1, 0), 0, pipeOf("", 1, 0), "", 0},
		{"one of an empty one", pipeOf("", 1, 1), 1, pipeOf("", 1, 1), "", 2},
		{"many of an empty one", pipeOf("", 2, 99), math.MaxInt, pipeOf("", 2, 99), "", 2},
		{"one of an empty one, without writers", pipeOf("", 1, 0), 1, pipeOf("", 1, 0), "", 3},
		{"many of an empty one, without writers", pipeOf("", 99, 0), math.MaxInt, pipeOf("", 99, 0), "", 3},
		{"without readers", pipeOf("", 0, 1), 1, impl.Pipe{}, "", 1},
		{"none, without readers", pipeOf("", 0, 1), 0, impl.Pipe{}, "", 1},
		{"of one that is gone", pipeOf("", 0, 0), 1, impl.Pipe{}, "", 1},
		{"none of one that is gone", pipeOf("", 0, 0), 0, impl.Pipe{}, "", 1},
		{"-1", pipeOf("abc", 1, 1), -1, impl.Pipe{}, "", 1},
		{"-1 of an empty one", pipeOf("", 1, 1), -1, impl.Pipe{}, "", 1},
		{"-1 of an empty one, without writers", pipeOf("", 1, 0), -1, impl.Pipe{}, "", 1},
		{"the least number", pipeOf("abc", 1, 1), math.MinInt, impl.Pipe{}, "", 1},
		{"of bytes that nobody reads", pipeOf("abc", 0, 1), 1, impl.Pipe{}, "", 1},
		{"of a byte too many", pipeOf("abcdefghi", 1, 1), 1, impl.Pipe{}, "", 1},
		{"none of a byte too many", pipeOf("abcdefghi", 1, 1), 0, impl.Pipe{}, "", 1},
		{"by 100 readers", pipeOf("abc", 100, 1), 1, impl.Pipe{}, "", 1},
		{"from -1 writers", pipeOf("abc", 1, -1), 1, impl.Pipe{}, "", 1},
		{"a zero byte", pipeOf("\x00\x00a", 1, 1), 1, pipeOf("\x00a", 1, 1), "\x00", 0},
		{"a zero byte, all", pipeOf("\x00", 1, 1), 1, pipeOf("", 1, 1), "\x00", 0},
		{"bytes above 127", pipeOf("\xff\x80\x00", 1, 1), 2, pipeOf("\x00", 1, 1), "\xff\x80", 0},
		{"a rune in part", pipeOf("éa", 1, 1), 1, pipeOf("\xa9a", 1, 1), "\xc3", 0},
	} {
		got, text, code := impl.PipeTake(x.pipe, x.many)
		wantTaken(t, "PipeTake, "+x.name, got, text, code, x.want, x.text, x.code)
	}
}

// sideCase is one who joins or leaves, written out; the zero value is that it fails.
type sideCase struct {
	name  string
	pipe  impl.Pipe
	reads bool
	want  impl.Pipe
}

func TestPipeJoinCases(t *testing.T) {
	for _, x := range []sideCase{
		{"a reader to none", pipeOf("", 0, 1), true, pipeOf("", 1, 1)},
		{"a reader to one", pipeOf("abc", 1, 1), true, pipeOf("abc", 2, 1)},
		{"a reader to 98", pipeOf("abcdefgh", 98, 1), true, pipeOf("abcdefgh", 99, 1)},
		{"a reader to 98 without writers", pipeOf("a", 98, 0), true, pipeOf("a", 99, 0)},
		{"a reader, with 99 writers", pipeOf("", 0, 99), true, pipeOf("", 1, 99)},
		{"a writer to none", pipeOf("", 1, 0), false, pipeOf("", 1, 1)},
		{"a writer to none, with bytes", pipeOf("abcdefgh", 1, 0), false, pipeOf("abcdefgh", 1, 1)},
		{"a writer to one", pipeOf("\x00\xff", 1, 1), false, pipeOf("\x00\xff", 1, 2)},
		{"a writer to 98", pipeOf("abc", 1, 98), false, pipeOf("abc", 1, 99)},
		{"a writer to 98 without readers", pipeOf("", 0, 98), false, pipeOf("", 0, 99)},
		{"a writer, with 99 readers", pipeOf("a", 99, 0), false, pipeOf("a", 99, 1)},
		{"a reader to 99", pipeOf("abc", 99, 1), true, impl.Pipe{}},
		{"a reader to 99 of both", pipeOf("", 99, 99), true, impl.Pipe{}},
		{"a writer to 99", pipeOf("abc", 1, 99), false, impl.Pipe{}},
		{"a writer to 99 of both", pipeOf("", 99, 99), false, impl.Pipe{}},
		{"a reader to one that is gone", pipeOf("", 0, 0), true, impl.Pipe{}},
		{"a writer to one that is gone", pipeOf("", 0, 0), false, impl.Pipe{}},
		{"a reader to 100", pipeOf("", 100, 1), true, impl.Pipe{}},
		{"a writer to 100 readers", pipeOf("", 100, 1), false, impl.Pipe{}},
		{"a reader to -1", pipeOf("", -1, 1), true, impl.Pipe{}},
		{"a writer to -1", pipeOf("", 1, -1), false, impl.Pipe{}},
		{"a reader to the greatest number", pipeOf("", math.MaxInt, 1), true, impl.Pipe{}},
		{"a writer to the least number", pipeOf("", 1, math.MinInt), false, impl.Pipe{}},
		{"a reader to bytes that nobody reads", pipeOf("a", 0, 1), true, impl.Pipe{}},
		{"a writer to a byte too many", pipeOf("abcdefghi", 1, 1), false, impl.Pipe{}},
	} {
		got, ok := impl.PipeJoin(x.pipe, x.reads)
		wantSide(t, "PipeJoin of "+x.name, got, ok, x.want, x.want != impl.Pipe{})
	}
}

func TestPipeLeaveCases(t *testing.T) {
	for _, x := range []sideCase{
		{"a reader of two", pipeOf("abc", 2, 1), true, pipeOf("abc", 1, 1)},
		{"a reader of 99", pipeOf("abcdefgh", 99, 99), true, pipeOf("abcdefgh", 98, 99)},
		{"a reader of 98", pipeOf("abc", 98, 1), true, pipeOf("abc", 97, 1)},
		{"the last reader", pipeOf("", 1, 1), true, pipeOf("", 0, 1)},
		{"the last reader, with bytes", pipeOf("abc", 1, 1), true, pipeOf("", 0, 1)},
		{"the last reader of a full one", pipeOf("abcdefgh", 1, 99), true, pipeOf("", 0, 99)},
		{"the last reader, with zero bytes", pipeOf("\x00\x00", 1, 2), true, pipeOf("", 0, 2)},
		{"a writer of two", pipeOf("abc", 1, 2), false, pipeOf("abc", 1, 1)},
		{"a writer of 99", pipeOf("abcdefgh", 99, 99), false, pipeOf("abcdefgh", 99, 98)},
		{"a writer of 98", pipeOf("abc", 1, 98), false, pipeOf("abc", 1, 97)},
		{"the last writer", pipeOf("", 1, 1), false, pipeOf("", 1, 0)},
		{"the last writer, with bytes", pipeOf("abcdefgh", 1, 1), false, pipeOf("abcdefgh", 1, 0)},
		{"a writer, without readers", pipeOf("", 0, 2), false, pipeOf("", 0, 1)},
		{"a reader of none", pipeOf("", 0, 1), true, impl.Pipe{}},
		{"a writer of none", pipeOf("abc", 1, 0), false, impl.Pipe{}},
		{"a reader of one that is gone", pipeOf("", 0, 0), true, impl.Pipe{}},
		{"a writer of one that is gone", pipeOf("", 0, 0), false, impl.Pipe{}},
		{"a reader of 100", pipeOf("", 100, 1), true, impl.Pipe{}},
		{"a writer of 100", pipeOf("", 1, 100), false, impl.Pipe{}},
		{"a reader, with 100 writers", pipeOf("", 1, 100), true, impl.Pipe{}},
		{"a reader of -1", pipeOf("", -1, 1), true, impl.Pipe{}},
		{"a writer of the least number", pipeOf("", 1, math.MinInt), false, impl.Pipe{}},
		{"a writer of bytes that nobody reads", pipeOf("a", 0, 1), false, impl.Pipe{}},
		{"a reader of a byte too many", pipeOf("abcdefghi", 1, 1), true, impl.Pipe{}},
		{"a reader of a byte too many, of two", pipeOf("abcdefghi", 2, 1), true, impl.Pipe{}},
	} {
		got, ok := impl.PipeLeave(x.pipe, x.reads)
		wantSide(t, "PipeLeave of "+x.name, got, ok, x.want, x.want != impl.Pipe{})
	}
}

// The last one who leaves leaves a pipe that is gone, which is nothing, but true.
func TestPipeLeaveOfTheLastOneOfAll(t *testing.T) {
	got, ok := impl.PipeLeave(pipeOf("abc", 1, 0), true)
	wantSide(t, "PipeLeave of the last reader, without writers", got, ok, impl.Pipe{}, true)
	got, ok = impl.PipeLeave(pipeOf("", 0, 1), false)
	wantSide(t, "PipeLeave of the last writer, without readers", got, ok, impl.Pipe{}, true)
}

func TestPipeReadyCases(t *testing.T) {
	for _, x := range []struct {
		name      string
		pipe      impl.Pipe
		take, put bool
	}{
		{"empty", pipeOf("", 1, 1), false, true},
		{"a byte", pipeOf("a", 1, 1), true, true},
		{"a zero byte", pipeOf("\x00", 1, 1), true, true},
		{"half full", pipeOf("abcd", 1, 1), true, true},
		{"a byte of room", pipeOf("abcdefg", 99, 99), true, true},
		{"full", pipeOf("abcdefgh", 1, 1), true, false},
		{"full, of bytes above 127", pipeOf("\xff\xff\xff\xff\xff\xff\xff\xff", 99, 99), true, false},
		{"empty, without writers", pipeOf("", 1, 0), true, true},
		{"half full, without writers", pipeOf("abcd", 1, 0), true, true},
		{"full, without writers", pipeOf("abcdefgh", 1, 0), true, false},
		{"without readers", pipeOf("", 0, 1), false, true},
		{"gone", pipeOf("", 0, 0), true, true},
		{"a byte too many", pipeOf("abcdefghi", 1, 1), false, false},
		{"a byte too many, without writers", pipeOf("abcdefghi", 1, 0), false, false},
		{"bytes that nobody reads", pipeOf("a", 0, 1), false, false},
		{"a byte, gone", pipeOf("a", 0, 0), false, false},
		{"-1 readers", pipeOf("", -1, 1), false, false},
		{"-1 readers, without writers", pipeOf("", -1, 0), false, false},
		{"100 writers", pipeOf("a", 1, 100), false, false},
		{"100 writers, without readers", pipeOf("", 0, 100), false, false},
		{"-1 writers, without readers", pipeOf("", 0, -1), false, false},
	} {
		wantReady(t, x.name, x.pipe, x.take, x.put)
	}
}
