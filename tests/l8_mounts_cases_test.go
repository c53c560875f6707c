package tests

import (
	"slices"
	"testing"

	"loop.example/quarterdeck/impl"
)

// Each text that is a path, with its steps, and whether it begins with /.
func TestPathStepsCases(t *testing.T) {
	for _, x := range []struct {
		path   string
		rooted bool
		steps  []string
	}{
		{"", false, nil},
		{"/", true, nil},
		{"..", false, []string{".."}},
		{"/..", true, []string{".."}},
		{"a", false, []string{"a"}},
		{"/a", true, []string{"a"}},
		{"z", false, []string{"z"}},
		{"a/b", false, []string{"a", "b"}},
		{"/a/b", true, []string{"a", "b"}},
		{"a/..", false, []string{"a", ".."}},
		{"/a/..", true, []string{"a", ".."}},
		{"../a", false, []string{"..", "a"}},
		{"/../a", true, []string{"..", "a"}},
		{"../..", false, []string{"..", ".."}},
		{"abc", false, []string{"abc"}},
		{"/abc", true, []string{"abc"}},
		{"xyz/../mno", false, []string{"xyz", "..", "mno"}},
		{"a/b/c/d/e", false, []string{"a", "b", "c", "d", "e"}},
		{"a/b/c/d/e/f", false, []string{"a", "b", "c", "d", "e", "f"}},
		{"/a/b/c/d/e/f", true, []string{"a", "b", "c", "d", "e", "f"}},
		{"abc/abc/abc/abc/abc/abc", false, []string{"abc", "abc", "abc", "abc", "abc", "abc"}},
		{"/../../../../../..", true, []string{"..", "..", "..", "..", "..", ".."}},
		{"a/../bc/../def/..", false, []string{"a", "..", "bc", "..", "def", ".."}},
	} {
		rooted, steps, ok := impl.PathSteps(x.path)
		if rooted != x.rooted || !slices.Equal(steps, x.steps) || !ok {
			t.Errorf("PathSteps of %q: %v, %q, %v, want %v, %q, true", x.path, rooted, steps, ok, x.rooted, x.steps)
		}
	}
}

// Each text that is no path gives nothing.
func TestPathStepsOfNoPaths(t *testing.T) {
	for _, path := range noPaths() {
		if pathForm.MatchString(path) {
			t.Errorf("%q is a path", path)
		}
		if rooted, steps, ok := impl.PathSteps(path); rooted || len(steps) > 0 || ok {
			t.Errorf("PathSteps of %q: %v, %q, %v, want nothing", path, rooted, steps, ok)
		}
	}
}

// walkCase is where a path leads someone from a place, and the code; where it is not ErrFine the place is the zero value.
type walkCase struct {
	name string
	vfs  impl.Vfs
	cred impl.Cred
	from impl.Place
	path string
	to   impl.Place
	code int
}

func checkWalkCases(t *testing.T, list []walkCase) {
	t.Helper()
	for _, x := range list {
		t.Run(x.name, func(t *testing.T) {
			got, code := impl.VfsWalk(x.vfs, x.cred, x.from, x.path)
			wantPlace(t, "VfsWalk of "+x.path, got, code, x.to, x.code)
			want, need := modelWalk(x.vfs, x.cred, x.from, x.path)
			wantPlace(t, "the model of "+x.path, want, need, x.to, x.code)
		})
	}
}

func TestVfsWalkCasesOfTheFirst(t *testing.T) {
	v, top := apart(townFs(), hillFs()), at(0, 0)
	checkWalkCases(t, []walkCase{
		{name: "no steps, from the beginning", vfs: v, cred: user2, from: at(0, 4), path: "/", to: top},
		{name: "no steps", vfs: v, cred: user2, from: top, path: "", to: top},
		{name: "no steps, from a folder below", vfs: v, cred: user2, from: at(0, 4), path: "", to: at(0, 4)},
		{name: "no steps, from a folder that one may not go through", vfs: v, cred: user2, from: at(0, 8), path: "", to: at(0, 8)},
		{name: "no steps, from a file", vfs: v, cred: user2, from: at(0, 2), path: "", to: at(0, 2)},
		{name: "a folder", vfs: v, cred: user2, from: top, path: "a", to: at(0, 1)},
		{name: "a file", vfs: v, cred: user2, from: top, path: "f", to: at(0, 2)},
		{name: "a file that one may not read", vfs: v, cred: user3, from: top, path: "m/h", to: at(0, 6)},
		{name: "a folder on which nothing is mounted", vfs: v, cred: user2, from: top, path: "m", to: at(0, 3)},
		{name: "a folder that one may not go through", vfs: v, cred: user2, from: top, path: "s", to: at(0, 8)},
		{name: "two names", vfs: v, cred: user2, from: top, path: "a/b", to: at(0, 4)},
		{name: "another name of a file", vfs: v, cred: user2, from: top, path: "a/g", to: at(0, 2)},
		{name: "three names, from the beginning", vfs: v, cred: user2, from: at(0, 4), path: "/m/in/d", to: at(0, 7)},
		{name: "a name in a folder below", vfs: v, cred: user2, from: at(0, 3), path: "in", to: at(0, 5)},
		{name: "a name from the beginning, from a file", vfs: v, cred: user2, from: at(0, 2), path: "/a", to: at(0, 1)},
		{name: "a name from the beginning, from the second one", vfs: v, cred: user2, from: at(1, 3), path: "/a", to: at(0, 1)},
		{name: "above the beginning", vfs: v, cred: user2, from: top, path: "..", to: top},
		{name: "above the beginning, six times", vfs: v, cred: user2, from: at(0, 5), path: "/../../../../../..", to: top},
		{name: "above the beginning, and down", vfs: v, cred: user2, from: top, path: "../../a", to: at(0, 1)},
		{name: "the folder above", vfs: v, cred: user2, from: at(0, 4), path: "..", to: at(0, 1)},
		{name: "the folder above that", vfs: v, cred: user2, from: at(0, 4), path: "../..", to: top},
		{name: "the folder beside", vfs: v, cred: user2, from: at(0, 4), path: "../../m", to: at(0, 3)},
		{name: "down and up", vfs: v, cred: user2, from: top, path: "a/..", to: top},
		{name: "six steps", vfs: v, cred: user2, from: top, path: "a/b/../../a/b", to: at(0, 4)},
		{name: "six steps from the beginning", vfs: v, cred: user2, from: at(0, 7), path: "/a/b/../../a/b", to: at(0, 4)},
		{name: "seven steps", vfs: v, cred: user2, from: top, path: "a/b/../../a/b/..", code: 1},
		{name: "no such name", vfs: v, cred: user2, from: top, path: "b", code: 2},
		{name: "a longer name", vfs: v, cred: user2, from: top, path: "aa", code: 2},
		{name: "no such name on the way", vfs: v, cred: user2, from: top, path: "b/a", code: 2},
		{name: "up from no such name", vfs: v, cred: user2, from: top, path: "b/..", code: 2},
		{name: "a name of the second one", vfs: v, cred: user2, from: top, path: "k", code: 2},
		{name: "through a file", vfs: v, cred: user2, from: top, path: "f/a", code: 4},
		{name: "up from a file", vfs: v, cred: user2, from: top, path: "f/..", code: 4},
		{name: "from a file", vfs: v, cred: user2, from: at(0, 2), path: "a", code: 4},
		{name: "up from a file where the walk begins", vfs: v, cred: user2, from: at(0, 2), path: "..", code: 4},
		{name: "through a file which one may do nothing with", vfs: v, cred: user3, from: at(0, 6), path: "..", code: 4},
		{name: "through a folder that one may not go through", vfs: v, cred: user2, from: top, path: "s/t", code: 5},
		{name: "one sees not which names are there", vfs: v, cred: user2, from: top, path: "s/no", code: 5},
		{name: "up from a folder that one may not go through", vfs: v, cred: user2, from: top, path: "s/..", code: 5},
		{name: "up from one where the walk begins", vfs: v, cred: user2, from: at(0, 8), path: "..", code: 5},
		{name: "up to a folder that one may not go through", vfs: v, cred: user2, from: at(0, 9), path: "..", to: at(0, 8)},
		{name: "up, and up from that", vfs: v, cred: user2, from: at(0, 9), path: "../..", code: 5},
		{name: "its owner goes through it", vfs: v, cred: user3, from: top, path: "s/t", to: at(0, 9)},
		{name: "the user 0 goes through it", vfs: v, cred: user0, from: top, path: "s/t/..", to: at(0, 8)},
		{name: "the first step that fails counts", vfs: v, cred: user2, from: top, path: "f/a/s/t", code: 4},
		{name: "a step behind one that fails does not", vfs: v, cred: user2, from: top, path: "s/t/f/..", code: 5},
	})
	none := apart(newFs(3, 0), newFs(3, 0))
	checkWalkCases(t, []walkCase{
		{name: "a first folder that nobody may go through", vfs: none, cred: user0, from: top, path: "/", to: top},
		{name: "a name in it", vfs: none, cred: user0, from: top, path: "/a", code: 5},
		{name: "the folder above it, which is itself", vfs: none, cred: user0, from: top, path: "/..", code: 5},
		{name: "the same of the second one", vfs: none, cred: user0, from: at(1, 0), path: "..", code: 5},
	})
}

func TestVfsWalkCasesOfTheSecond(t *testing.T) {
	v, top := apart(townFs(), hillFs()), at(1, 0)
	checkWalkCases(t, []walkCase{
		{name: "no steps", vfs: v, cred: user2, from: top, path: "", to: top},
		{name: "above, mounted nowhere", vfs: v, cred: user2, from: top, path: "..", to: top},
		{name: "above, six times", vfs: v, cred: user2, from: at(1, 6), path: "../../../../../..", to: top},
		{name: "a name", vfs: v, cred: user2, from: top, path: "c/d", to: at(1, 3)},
		{name: "above, and down", vfs: v, cred: user2, from: at(1, 1), path: "../../k", to: at(1, 2)},
		{name: "a name of the first one", vfs: v, cred: user2, from: top, path: "m", code: 2},
		{name: "through a file", vfs: v, cred: user2, from: top, path: "k/..", code: 4},
		{name: "through a folder that nobody may go through", vfs: v, cred: user0, from: top, path: "u/v", code: 5},
		{name: "up from it", vfs: v, cred: user0, from: at(1, 4), path: "..", code: 5},
		{name: "up to it", vfs: v, cred: user0, from: at(1, 5), path: "..", to: at(1, 4)},
		{name: "the beginning", vfs: v, cred: user2, from: at(1, 2), path: "/", to: at(0, 0)},
	})
}

func TestVfsWalkCasesOfMounts(t *testing.T) {
	v, top, hill := mounted(townFs(), 3, hillFs()), at(0, 0), at(1, 0)
	checkWalkCases(t, []walkCase{
		{name: "the folder by its name", vfs: v, cred: user2, from: top, path: "m", to: hill},
		{name: "the folder by its name, from the beginning", vfs: v, cred: user2, from: at(1, 2), path: "/m", to: hill},
		{name: "below it", vfs: v, cred: user2, from: top, path: "m/c/d", to: at(1, 3)},
		{name: "a file below it", vfs: v, cred: user2, from: at(0, 4), path: "/m/k", to: at(1, 2)},
		{name: "names that it has itself are not met", vfs: v, cred: user2, from: top, path: "m/in", code: 2},
		{name: "nor is a file", vfs: v, cred: user0, from: top, path: "/m/h", code: 2},
		{name: "where a walk begins", vfs: v, cred: user2, from: at(0, 3), path: "", to: hill},
		{name: "a name where a walk begins", vfs: v, cred: user2, from: at(0, 3), path: "c", to: at(1, 1)},
		{name: "its own name where a walk begins", vfs: v, cred: user2, from: at(0, 3), path: "in", code: 2},
		{name: "up where a walk begins", vfs: v, cred: user2, from: at(0, 3), path: "..", to: top},
		{name: "up from node 0 of the second one", vfs: v, cred: user2, from: hill, path: "..", to: top},
		{name: "up and beside", vfs: v, cred: user2, from: hill, path: "../a/b", to: at(0, 4)},
		{name: "up and back", vfs: v, cred: user2, from: hill, path: "../m", to: hill},
		{name: "up from below", vfs: v, cred: user2, from: at(1, 1), path: "..", to: hill},
		{name: "up twice from below", vfs: v, cred: user2, from: at(1, 1), path: "../..", to: top},
		{name: "up by four steps from below", vfs: v, cred: user2, from: at(1, 6), path: "../../../..", to: top},
		{name: "down and up", vfs: v, cred: user2, from: top, path: "m/..", to: top},
		{name: "down, up and down", vfs: v, cred: user2, from: top, path: "m/../m/c/../k", to: at(1, 2)},
		{name: "up to the folder from below it in the first one", vfs: v, cred: user2, from: at(0, 5), path: "..", to: hill},
		{name: "and further", vfs: v, cred: user2, from: at(0, 5), path: "../..", to: top},
		{name: "and down again", vfs: v, cred: user2, from: at(0, 5), path: "../in", code: 2},
		{name: "and down in the second one", vfs: v, cred: user2, from: at(0, 7), path: "../../c", to: at(1, 1)},
		{name: "below it in the first one, where one is", vfs: v, cred: user2, from: at(0, 5), path: "d/..", to: at(0, 5)},
		{name: "from a file below it in the first one", vfs: v, cred: user2, from: at(0, 6), path: "..", code: 4},
		{name: "a folder of the same number in the second one", vfs: v, cred: user2, from: at(1, 3), path: "", to: at(1, 3)},
		{name: "it by its name", vfs: v, cred: user2, from: hill, path: "c/d", to: at(1, 3)},
		{name: "and a name in it", vfs: v, cred: user2, from: hill, path: "c/d/a/..", to: at(1, 3)},
	})
	deep := mounted(townFs(), 7, hillFs())
	checkWalkCases(t, []walkCase{
		{name: "mounted three folders below", vfs: deep, cred: user2, from: top, path: "m/in/d/c", to: at(1, 1)},
		{name: "up from node 0 of it", vfs: deep, cred: user2, from: hill, path: "..", to: at(0, 5)},
		{name: "up from below it", vfs: deep, cred: user2, from: at(1, 3), path: "../../..", to: at(0, 5)},
		{name: "up to the beginning", vfs: deep, cred: user2, from: at(1, 3), path: "../../../../../..", to: top},
		{name: "up where a walk begins, three folders below", vfs: deep, cred: user2, from: at(0, 7), path: "../..", to: at(0, 3)},
	})
	back := mounted(backFs(), 1, backFs())
	checkWalkCases(t, []walkCase{
		{name: "up to a folder of another number", vfs: back, cred: user2, from: hill, path: "..", to: at(0, 9)},
		{name: "a folder of the same number as the mount", vfs: back, cred: user2, from: hill, path: "b/c", to: at(1, 1)},
		{name: "up from below the folder", vfs: back, cred: user2, from: at(0, 5), path: "..", to: hill},
		{name: "up from below the one of the same number", vfs: back, cred: user2, from: at(1, 5), path: "..", to: at(1, 1)},
	})
}

// Who may go where a file system is mounted: the folder on which it is does not count, node 0 of it does.
func TestVfsWalkCasesOfRightsAtMounts(t *testing.T) {
	under := mounted(withEdits(townFs(), setMode(3, 0)), 3, hillFs())
	over := mounted(townFs(), 3, withEdits(hillFs(), setMode(0, 0o600)))
	shut := mounted(withEdits(townFs(), setMode(0, 0o600)), 3, hillFs())
	hill := at(1, 0)
	checkWalkCases(t, []walkCase{
		{name: "through the folder's place", vfs: under, cred: user2, from: at(0, 0), path: "m/c", to: at(1, 1)},
		{name: "up from there", vfs: under, cred: user2, from: hill, path: "..", to: at(0, 0)},
		{name: "where a walk begins", vfs: under, cred: user2, from: at(0, 3), path: "..", to: at(0, 0)},
		{name: "up to it from below it", vfs: under, cred: user2, from: at(0, 5), path: "../c", to: at(1, 1)},
		{name: "to node 0 that one may not go through", vfs: over, cred: user2, from: at(0, 0), path: "m", to: hill},
		{name: "through it", vfs: over, cred: user2, from: at(0, 0), path: "m/c", code: 5},
		{name: "a name that is not there", vfs: over, cred: user2, from: at(0, 0), path: "m/no", code: 5},
		{name: "up from it", vfs: over, cred: user2, from: hill, path: "..", code: 5},
		{name: "up from it where a walk begins", vfs: over, cred: user2, from: at(0, 3), path: "..", code: 5},
		{name: "up to it from below", vfs: over, cred: user2, from: at(1, 1), path: "..", to: hill},
		{name: "up to it from below the folder", vfs: over, cred: user2, from: at(0, 5), path: "..", to: hill},
		{name: "and up from it", vfs: over, cred: user2, from: at(0, 5), path: "../..", code: 5},
		{name: "its owner goes up only if somebody may", vfs: over, cred: user4, from: hill, path: "..", code: 5},
		{name: "a first folder that one may not go through, from below", vfs: shut, cred: user2, from: hill, path: "..", to: at(0, 0)},
		{name: "and back", vfs: shut, cred: user2, from: hill, path: "../m", code: 5},
	})
}

// parentCase is the folder of the last step of a path, the step, and the code.
type parentCase struct {
	name string
	vfs  impl.Vfs
	cred impl.Cred
	from impl.Place
	path string
	to   impl.Place
	step string
	code int
}

func TestVfsParentCases(t *testing.T) {
	v, w, top := apart(townFs(), hillFs()), mounted(townFs(), 3, hillFs()), at(0, 0)
	for _, x := range []parentCase{
		{name: "one step", vfs: v, cred: user2, from: at(0, 1), path: "b", to: at(0, 1), step: "b"},
		{name: "one step that is not there", vfs: v, cred: user2, from: at(0, 1), path: "new", to: at(0, 1), step: "new"},
		{name: "one step from the beginning", vfs: v, cred: user2, from: at(0, 1), path: "/f", to: top, step: "f"},
		{name: "one step from the beginning, from a file", vfs: v, cred: user2, from: at(0, 2), path: "/no", to: top, step: "no"},
		{name: "two steps", vfs: v, cred: user2, from: top, path: "a/g", to: at(0, 1), step: "g"},
		{name: "a step to a file", vfs: v, cred: user2, from: top, path: "m/h", to: at(0, 3), step: "h"},
		{name: ".. on the way", vfs: v, cred: user2, from: at(0, 4), path: "../../m/x", to: at(0, 3), step: "x"},
		{name: "six steps", vfs: v, cred: user2, from: top, path: "a/../a/../a/b", to: at(0, 1), step: "b"},
		{name: "a folder that one may not go through", vfs: v, cred: user2, from: top, path: "s/t", to: at(0, 8), step: "t"},
		{name: "one where the walk begins", vfs: v, cred: user2, from: at(0, 8), path: "t", to: at(0, 8), step: "t"},
		{name: "in the second one", vfs: v, cred: user2, from: at(1, 1), path: "../c/d", to: at(1, 1), step: "d"},
		{name: "no steps", vfs: v, cred: user2, from: at(0, 1), path: "", code: 6},
		{name: "no steps, from the beginning", vfs: v, cred: user2, from: at(0, 1), path: "/", code: 6},
		{name: "no steps, from a file", vfs: v, cred: user2, from: at(0, 2), path: "", code: 6},
		{name: "just ..", vfs: v, cred: user2, from: at(0, 1), path: "..", code: 6},
		{name: ".. from the beginning", vfs: v, cred: user2, from: at(0, 1), path: "/..", code: 6},
		{name: ".. at the end", vfs: v, cred: user2, from: at(0, 1), path: "b/..", code: 6},
		{name: ".. at the end, behind a name that is not there", vfs: v, cred: user2, from: at(0, 1), path: "no/..", code: 6},
		{name: ".. at the end, behind a file", vfs: v, cred: user2, from: at(0, 2), path: "a/..", code: 6},
		{name: "a name that is not there on the way", vfs: v, cred: user2, from: top, path: "no/a", code: 2},
		{name: "a file ahead of the last step", vfs: v, cred: user2, from: top, path: "f/a", code: 4},
		{name: "a file on the way", vfs: v, cred: user2, from: top, path: "a/g/b/c", code: 4},
		{name: "from a file", vfs: v, cred: user2, from: at(0, 2), path: "a", code: 4},
		{name: "from a file, two steps", vfs: v, cred: user2, from: at(0, 2), path: "a/b", code: 4},
		{name: "through a folder that one may not go through", vfs: v, cred: user2, from: top, path: "s/t/x", code: 5},
		{name: "the first step that fails counts", vfs: v, cred: user2, from: top, path: "s/../no/x", code: 5},
		{name: "seven steps", vfs: v, cred: user2, from: top, path: "a/b/c/d/e/f/g", code: 1},
		{name: "in the place of the folder", vfs: w, cred: user2, from: top, path: "m/new", to: at(1, 0), step: "new"},
		{name: "where the walk begins", vfs: w, cred: user2, from: at(0, 3), path: "in", to: at(1, 0), step: "in"},
		{name: "the folder itself", vfs: w, cred: user2, from: at(1, 0), path: "/m", to: top, step: "m"},
		{name: "up out of the second one", vfs: w, cred: user2, from: at(1, 0), path: "../m", to: top, step: "m"},
		{name: "up to the folder from below it", vfs: w, cred: user2, from: at(0, 5), path: "../in", to: at(1, 0), step: "in"},
		{name: "below the folder, where one is", vfs: w, cred: user2, from: at(0, 5), path: "d", to: at(0, 5), step: "d"},
		{name: "a file of the second one", vfs: w, cred: user2, from: top, path: "m/k/x", code: 4},
	} {
		t.Run(x.name, func(t *testing.T) {
			got, step, code := impl.VfsParent(x.vfs, x.cred, x.from, x.path)
			wantPlace(t, "VfsParent of "+x.path, got, code, x.to, x.code)
			want, name, need := modelParent(x.vfs, x.cred, x.from, x.path)
			wantPlace(t, "the model of "+x.path, want, need, x.to, x.code)
			if step != x.step || name != x.step {
				t.Errorf("the step %q, in the model %q, want %q", step, name, x.step)
			}
		})
	}
}

// mountCase is what VfsMount on a folder does, or VfsUnmount, for -1; where the code is not ErrFine all is as it was.
type mountCase struct {
	name string
	vfs  impl.Vfs
	cred impl.Cred
	id   int
	want impl.Vfs
	code int
}

func TestVfsMountCases(t *testing.T) {
	town, hill := townFs(), hillFs()
	v, w := apart(town, hill), mounted(town, 3, hill)
	often := apart(withEdits(town, setOpens(3, 99), setOpens(5, 98), setOpens(0, 99)), hill)
	many := withVfsEdits(often, inFs(0, setOpens(5, 99)), setMount(5))
	file := withVfsEdits(v, inFs(0, setOpens(2, 99)))
	for _, x := range []mountCase{
		{name: "a folder", vfs: v, id: 3, want: withVfsEdits(v, inFs(0, setOpens(3, 1)), setMount(3))},
		{name: "a folder without entries", vfs: v, id: 4, want: withVfsEdits(v, inFs(0, setOpens(4, 1)), setMount(4))},
		{name: "the last node", vfs: v, id: 9, want: withVfsEdits(v, inFs(0, setOpens(9, 1)), setMount(9))},
		{name: "a folder that only the user 3 may go through", vfs: v, id: 8, want: withVfsEdits(v, inFs(0, setOpens(8, 1)), setMount(8))},
		{name: "a folder that is open", vfs: apart(homeFs(), hill), id: 3, want: withVfsEdits(apart(homeFs(), hill), inFs(0, setOpens(3, 2)), setMount(3))},
		{name: "a folder that is open 98 times", vfs: often, id: 5, want: many},
		{name: "the user 0, really another one", vfs: v, cred: someone(0, 4, 1, 2), id: 3, want: withVfsEdits(v, inFs(0, setOpens(3, 1)), setMount(3))},
		{name: "file systems that are alike", vfs: apart(town, town), id: 1, want: withVfsEdits(apart(town, town), inFs(0, setOpens(1, 1)), setMount(1))},
		{name: "by another one", vfs: v, cred: user2, id: 3, code: 5},
		{name: "by really the user 0", vfs: v, cred: someone(4, 0), id: 3, code: 5},
		{name: "by the owner of the folder", vfs: v, cred: user3, id: 3, code: 5},
		{name: "by another one on node 0", vfs: v, cred: user2, id: 0, code: 5},
		{name: "by another one on a file", vfs: v, cred: user2, id: 2, code: 5},
		{name: "by another one, where it is mounted", vfs: w, cred: user2, id: 4, code: 5},
		{name: "by another one, on a folder that is open 99 times", vfs: often, cred: user2, id: 3, code: 5},
		{name: "on node 0", vfs: v, id: 0, code: 6},
		{name: "on node 0 that is open 99 times", vfs: often, id: 0, code: 6},
		{name: "where it is mounted on another one", vfs: w, id: 4, code: 6},
		{name: "where it is mounted on the same one", vfs: w, id: 3, code: 6},
		{name: "on a file, where it is mounted", vfs: w, id: 2, code: 6},
		{name: "on node 0, where it is mounted", vfs: w, id: 0, code: 6},
		{name: "on a folder below that on which it is mounted", vfs: w, id: 5, code: 6},
		{name: "on a file", vfs: v, id: 2, code: 4},
		{name: "on a file that is open 99 times", vfs: file, id: 2, code: 4},
		{name: "on a folder that is open 99 times", vfs: often, id: 3, code: 6},
	} {
		t.Run(x.name, func(t *testing.T) {
			if x.code != 0 {
				x.want = x.vfs
			}
			got, code := impl.VfsMount(x.vfs, x.cred, x.id)
			wantVfsCode(t, "VfsMount", got, code, x.want, x.code)
			got, code = modelMount(x.vfs, x.cred, x.id)
			wantVfsCode(t, "the model", got, code, x.want, x.code)
		})
	}
}

func TestVfsUnmountCases(t *testing.T) {
	town, hill := townFs(), hillFs()
	v, w := apart(town, hill), mounted(town, 3, hill)
	with := func(edits ...fsEdit) impl.Vfs { return mounted(town, 3, withEdits(hill, edits...)) }
	for _, x := range []mountCase{
		{name: "a folder that is not open otherwise", vfs: w, want: v},
		{name: "a folder that is open twice", vfs: mounted(homeFs(), 3, hill), want: apart(homeFs(), hill)},
		{name: "a folder that is open 99 times", vfs: mounted(withEdits(town, setOpens(3, 98)), 3, hill), want: apart(withEdits(town, setOpens(3, 98)), hill)},
		{name: "others of the first one are open", vfs: mounted(withEdits(town, setOpens(5, 4), setOpens(0, 2)), 3, hill), want: apart(withEdits(town, setOpens(5, 4), setOpens(0, 2)), hill)},
		{name: "the last node", vfs: mounted(town, 9, hill), want: apart(town, hill)},
		{name: "the user 0, really another one", vfs: w, cred: someone(0, 4, 1, 2), want: v},
		{name: "by another one", vfs: w, cred: user2, code: 5},
		{name: "by really the user 0", vfs: w, cred: someone(4, 0), code: 5},
		{name: "by the owner of the folder", vfs: w, cred: user3, code: 5},
		{name: "by another one, where it is not mounted", vfs: v, cred: user2, code: 5},
		{name: "by another one, where a node is open", vfs: with(setOpens(0, 1)), cred: user2, code: 5},
		{name: "not mounted", vfs: v, code: 2},
		{name: "not mounted, nodes of the first one being open", vfs: apart(homeFs(), hill), code: 2},
		{name: "node 0 is open", vfs: with(setOpens(0, 1)), code: 6},
		{name: "a file is open", vfs: with(setOpens(2, 1)), code: 6},
		{name: "a folder is open 99 times", vfs: with(setOpens(6, 99)), code: 6},
		{name: "a file without a name is open", vfs: with(setNode(9, opened(file(0, 2, 2, ""), 1), 0)), code: 6},
	} {
		t.Run(x.name, func(t *testing.T) {
			if x.code != 0 {
				x.want = x.vfs
			}
			got, code := impl.VfsUnmount(x.vfs, x.cred)
			wantVfsCode(t, "VfsUnmount", got, code, x.want, x.code)
			got, code = modelUnmount(x.vfs, x.cred)
			wantVfsCode(t, "the model", got, code, x.want, x.code)
		})
	}
}

// The path that leads to a place, or none, as the empty text.
func TestVfsPathCases(t *testing.T) {
	v, w, deep := apart(townFs(), hillFs()), mounted(townFs(), 3, hillFs()), mounted(townFs(), 7, hillFs())
	nine, all := apart(deepFs(), deepFs()), mounted(deepFs(), 9, deepFs())
	for _, x := range []struct {
		name string
		vfs  impl.Vfs
		p    impl.Place
		path string
	}{
		{"the beginning", v, at(0, 0), "/"},
		{"the beginning, with a mount", w, at(0, 0), "/"},
		{"a folder", v, at(0, 1), "/a"},
		{"a folder below", v, at(0, 4), "/a/b"},
		{"a name of more letters", v, at(0, 5), "/m/in"},
		{"three names", v, at(0, 7), "/m/in/d"},
		{"a folder that nobody but its owner may go through", v, at(0, 9), "/s/t"},
		{"a folder on which nothing is mounted", v, at(0, 3), "/m"},
		{"a folder beside the mount", w, at(0, 4), "/a/b"},
		{"the folder on which it is mounted", w, at(0, 3), "/m"},
		{"node 0 of the second one", w, at(1, 0), "/m"},
		{"a folder of the second one", w, at(1, 1), "/m/c"},
		{"one below it, of the same number as the mount", w, at(1, 3), "/m/c/d"},
		{"one below that", w, at(1, 6), "/m/c/d/a"},
		{"one below a folder that nobody may go through", w, at(1, 5), "/m/u/v"},
		{"a deeper mount", deep, at(0, 7), "/m/in/d"},
		{"node 0 at a deeper mount", deep, at(1, 0), "/m/in/d"},
		{"below a deeper mount", deep, at(1, 3), "/m/in/d/c/d"},
		{"above a deeper mount", deep, at(0, 5), "/m/in"},
		{"six steps", nine, at(0, 6), "/d/d/d/d/d/d"},
		{"seven steps", nine, at(0, 7), "/d/d/d/d/d/d/d"},
		{"nine steps", nine, at(0, 9), "/d/d/d/d/d/d/d/d/d"},
		{"nine steps to the mount", all, at(1, 0), "/d/d/d/d/d/d/d/d/d"},
		{"eighteen steps", all, at(1, 9), "/d/d/d/d/d/d/d/d/d/d/d/d/d/d/d/d/d/d"},
		{"a folder of a greater number than that below it", apart(backFs(), hillFs()), at(0, 5), "/b/c/abc"},
		{"a file", v, at(0, 2), ""},
		{"a file with one name", v, at(0, 6), ""},
		{"a file of the second one", w, at(1, 2), ""},
		{"node 0 of the second one, mounted nowhere", v, at(1, 0), ""},
		{"a folder of the second one, mounted nowhere", v, at(1, 1), ""},
		{"a folder below the mount", w, at(0, 5), ""},
		{"one below that", w, at(0, 7), ""},
		{"a file below the mount", w, at(0, 6), ""},
		{"a folder below the first one's first folder's mount", mounted(deepFs(), 1, hillFs()), at(0, 9), ""},
		{"a free node", w, at(1, 9), ""},
		{"no file system", w, at(2, 0), ""},
		{"a negative number", w, at(0, -1), ""},
	} {
		t.Run(x.name, func(t *testing.T) {
			path, ok := impl.VfsPath(x.vfs, x.p)
			want, need := modelPath(x.vfs, x.p)
			if path != x.path || ok != (x.path != "") || want != path || need != ok {
				t.Errorf("VfsPath is %q, %v, in the model %q, %v, want %q", path, ok, want, need, x.path)
			}
		})
	}
}
