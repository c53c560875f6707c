package tests

import (
	"fmt"
	"math/rand"
	"slices"
	"strings"
	"testing"

	"loop.example/quarterdeck/impl"
)

// pathOf is a path of steps, from the beginning on or not.
func pathOf(rooted bool, steps []string) string {
	path := strings.Join(steps, "/")
	if rooted {
		path = "/" + path
	}
	return path
}

// textsOf are all texts of at most so many signs of some.
func textsOf(signs []string, many int) []string {
	list, last := []string{""}, []string{""}
	for range many {
		next := []string{}
		for _, s := range last {
			for _, sign := range signs {
				next = append(next, s+sign)
			}
		}
		list, last = append(list, next...), next
	}
	return list
}

// eachWalk does something for valid file systems, each place of them, someone and paths.
func eachWalk(do func(what string, v impl.Vfs, c impl.Cred, p impl.Place, path string)) {
	r := rand.New(rand.NewSource(3))
	for _, x := range writtenVfss() {
		short := append(shortPaths(x.vfs), oddPaths()...)
		for _, p := range placesOf(x.vfs) {
			for range 15 {
				for _, path := range []string{pick(r, short), randomPath(r, x.vfs, p)} {
					c := user0
					if r.Intn(2) == 0 {
						c = pick(r, fewCreds()).cred
					}
					do(fmt.Sprintf("%s, %q from %v by %v", x.name, path, p, c), x.vfs, c, p, path)
				}
			}
		}
	}
}

// Promise 71.
func TestVfsOkIsWalkOfTheBeginning(t *testing.T) {
	for _, x := range allVfss() {
		got, code := impl.VfsWalk(x.vfs, user0, at(0, 0), "/")
		ok := impl.VfsOk(x.vfs)
		if ok != (code == 0) || ok != vfsIsValid(x.vfs) || got != at(0, 0) {
			t.Errorf("%s: VfsOk is %v, the walk leads to %v with the code %d, of %s", x.name, ok, got, code, vfsText(x.vfs))
		}
	}
}

// Promise 72, and that just those texts are paths that are made of steps and signs between.
func TestPathStepsAreThePath(t *testing.T) {
	list := append(textsOf([]string{"a", "/", ".", "Z"}, 7), textsOf([]string{"abc", "ab", "/", ".."}, 6)...)
	list = append(list, textsOf([]string{"q/", "../", "/", "xyz"}, 7)...)
	list = append(append(list, oddPaths()...), noPaths()...)
	for _, path := range list {
		rooted, steps, ok := impl.PathSteps(path)
		wantRooted, want, isPath := stepsOf(path)
		if rooted != wantRooted || !slices.Equal(steps, want) || ok != isPath {
			t.Fatalf("PathSteps of %q: %v, %q, %v, want %v, %q, %v", path, rooted, steps, ok, wantRooted, want, isPath)
		}
		if ok && (pathOf(rooted, steps) != path || len(steps) > 6) {
			t.Fatalf("PathSteps of %q: %v, %q", path, rooted, steps)
		}
	}
}

// Promise 73.
func TestVfsWalkIsItsLastStepFromWhereTheOthersLead(t *testing.T) {
	seen := map[string]int{}
	eachWalk(func(what string, v impl.Vfs, c impl.Cred, p impl.Place, path string) {
		rooted, steps, _ := stepsOf(path)
		if len(steps) == 0 {
			return
		}
		last := len(steps) - 1
		want, need := impl.VfsWalk(v, c, p, pathOf(rooted, steps[:last]))
		if need == 0 {
			want, need = impl.VfsWalk(v, c, want, steps[last])
		}
		got, code := impl.VfsWalk(v, c, p, path)
		wantPlace(t, what, got, code, want, need)
		seen[fmt.Sprintf("VfsWalk %d", code)]++
	})
	wantCodesMet(t, seen, "VfsWalk", 0, 2, 4, 5)
}

// Promise 74.
func TestVfsParentAndItsStepLeadWhereThePathLeads(t *testing.T) {
	seen := map[string]int{}
	eachWalk(func(what string, v impl.Vfs, c impl.Cred, p impl.Place, path string) {
		folder, step, code := impl.VfsParent(v, c, p, path)
		seen[fmt.Sprintf("VfsParent %d", code)]++
		want, need := impl.VfsWalk(v, c, p, path)
		_, steps, isPath := stepsOf(path)
		switch {
		case !isPath:
			wantPlace(t, what, folder, code, impl.Place{}, 1)
		case len(steps) == 0 || steps[len(steps)-1] == "..":
			wantPlace(t, what, folder, code, impl.Place{}, 6)
		case code != 0:
			// What fails ahead of the last step fails for the path, too.
			wantPlace(t, what, want, need, impl.Place{}, code)
			wantPlace(t, what, folder, code, impl.Place{}, code)
		default:
			if step != steps[len(steps)-1] || inodeAt(v, folder).Kind != 2 {
				t.Fatalf("%s: the step %q in %v", what, step, folder)
			}
			got, code := impl.VfsWalk(v, c, folder, step)
			wantPlace(t, what, got, code, want, need)
			return
		}
		if step != "" {
			t.Fatalf("%s: the step %q with the code %d", what, step, code)
		}
	})
	wantCodesMet(t, seen, "VfsParent", 0, 1, 2, 4, 5, 6)
}

// notMounted are the valid ones whose second file system is mounted nowhere, with those of others to which the end of the mount leads.
func notMounted() []namedVfs {
	list := []namedVfs{}
	for _, x := range validVfss() {
		if x.vfs.Mount != -1 {
			x.vfs = apart(x.vfs.Fss[0], shutFs(x.vfs.Fss[1]))
		}
		list = append(list, x)
	}
	return list
}

// eachMount mounts the second file system on each folder on which it may be, one after the other.
func eachMount(t *testing.T, do func(what string, v impl.Vfs, id int, w impl.Vfs)) {
	t.Helper()
	for _, x := range notMounted() {
		for id, i := range x.vfs.Fss[0].Nodes {
			if id == 0 || i.Kind != 2 || i.Opens == 99 {
				continue
			}
			what := fmt.Sprintf("%s, on %d", x.name, id)
			w, code := impl.VfsMount(x.vfs, user0, id)
			if code != 0 {
				t.Fatalf("%s: the code %d", what, code)
			}
			do(what, x.vfs, id, w)
		}
	}
}

// Promise 75.
func TestVfsMountIsMetAndEnds(t *testing.T) {
	eachMount(t, func(what string, v impl.Vfs, id int, w impl.Vfs) {
		wantValidVfs(t, what, w)
		if w.Mount != id || w.Fss[0].Nodes[id].Opens != v.Fss[0].Nodes[id].Opens+1 {
			t.Fatalf("%s: %s", what, vfsText(w))
		}
		got, code := impl.VfsWalk(w, user0, at(0, id), "")
		wantPlace(t, what, got, code, at(1, 0), 0)
		for _, path := range modelPaths(v) {
			to, code := impl.VfsWalk(v, user0, at(0, 0), path)
			if code == 0 && to == at(0, id) {
				got, code := impl.VfsWalk(w, user0, at(0, 0), path)
				wantPlace(t, what+", "+path, got, code, at(1, 0), 0)
			}
		}
		back, code := impl.VfsUnmount(w, user0)
		wantVfsCode(t, what+", ended", back, code, v, 0)
	})
}

// Promise 76.
func TestVfsUnmountEndsAndMountsAgain(t *testing.T) {
	seen := 0
	for _, x := range validVfss() {
		got, code := impl.VfsUnmount(x.vfs, user0)
		if code != 0 {
			wantVfs(t, x.name, got, x.vfs)
			continue
		}
		seen++
		wantValidVfs(t, x.name, got)
		if got.Mount != -1 || slices.ContainsFunc(got.Fss[1].Nodes, func(i impl.Inode) bool { return i.Opens != 0 }) {
			t.Fatalf("%s: %s", x.name, vfsText(got))
		}
		again, code := impl.VfsMount(got, user0, x.vfs.Mount)
		wantVfsCode(t, x.name+", mounted again", again, code, x.vfs, 0)
	}
	if seen < 20 {
		t.Errorf("%d mounts ended", seen)
	}
}

// mayReach tells whether the user 0 may go through all folders of steps but the last one, none of which is "..".
func mayReach(v impl.Vfs, steps []string) bool {
	p := at(0, 0)
	for _, step := range steps {
		if !mayAt(v.Fss[p.Fs], user0, p.Id, 1) {
			return false
		}
		p = across(v, at(p.Fs, idOf(v.Fss[p.Fs], p.Id, step)))
	}
	return true
}

// Promise 77.
func TestVfsPathLeadsToTheFolder(t *testing.T) {
	seen := map[string]int{}
	for _, x := range validVfss() {
		for _, p := range foldersOf(x.vfs) {
			path, ok := impl.VfsPath(x.vfs, p)
			rooted, steps, isPath := stepsOf(path)
			if !ok || !isPath {
				seen[fmt.Sprintf("VfsPath %v %v", ok, isPath)]++
				continue
			}
			if !rooted || slices.Contains(steps, "..") {
				t.Fatalf("%s: VfsPath of %v is %q", x.name, p, path)
			}
			want, need := across(x.vfs, p), 0
			if !mayReach(x.vfs, steps) {
				want, need = impl.Place{}, 5
			}
			for _, from := range placesOf(x.vfs) {
				got, code := impl.VfsWalk(x.vfs, user0, from, path)
				wantPlace(t, fmt.Sprintf("%s: VfsPath of %v, %q", x.name, p, path), got, code, want, need)
			}
			seen[fmt.Sprintf("VfsWalk %d", need)]++
		}
	}
	wantCodesMet(t, seen, "VfsWalk", 0, 5)
	wantCodesMet(t, seen, "VfsPath", "true false", "false true")
}

// Promise 78.
func TestVfsWalkOfANameAndBack(t *testing.T) {
	seen := map[string]int{}
	for _, x := range validVfss() {
		for _, p := range foldersOf(x.vfs) {
			from := across(x.vfs, p)
			for _, e := range inodeAt(x.vfs, from).Names {
				for _, c := range fewCreds() {
					what := fmt.Sprintf("%s: %s from %v by %s", x.name, e.Name, p, c.name)
					to, code := impl.VfsWalk(x.vfs, c.cred, p, e.Name)
					if code == 0 {
						_, code = impl.VfsWalk(x.vfs, c.cred, to, "..")
					}
					seen[fmt.Sprintf("VfsWalk %d", code)]++
					got, both := impl.VfsWalk(x.vfs, c.cred, p, e.Name+"/..")
					if code == 0 {
						wantPlace(t, what, got, both, from, 0)
					} else {
						wantPlace(t, what, got, both, impl.Place{}, code)
					}
				}
			}
		}
	}
	wantCodesMet(t, seen, "VfsWalk", 0, 4, 5)
}

// metBy are all places that the user 0 meets, going on from the beginning by any steps.
func metBy(v impl.Vfs) []impl.Place {
	steps := append(namesOf(v), "..")
	list := []impl.Place{at(0, 0)}
	for k := 0; k < len(list); k++ {
		for _, step := range steps {
			to, code := impl.VfsWalk(v, user0, list[k], step)
			if code == 0 && !slices.Contains(list, to) {
				list = append(list, to)
			}
		}
	}
	return list
}

// Promise 79.
func TestVfsMountHidesWhatIsBelowTheFolder(t *testing.T) {
	met := 0
	eachMount(t, func(what string, v impl.Vfs, id int, w impl.Vfs) {
		folders, second := foldersOf(v), 0
		for _, p := range metBy(w) {
			if p.Fs == 0 && slices.Contains(folders, p) && leadsTo(v.Fss[0], id, p.Id) {
				t.Fatalf("%s: one meets %v, of %s", what, p, vfsText(w))
			}
			second += p.Fs
		}
		met += second
		back, _ := impl.VfsUnmount(w, user0)
		for _, path := range append(oddPaths(), "/"+strings.Join(namesOf(v)[:min(3, len(namesOf(v)))], "/")) {
			for _, p := range []impl.Place{at(0, 0), at(0, id), at(1, 0)} {
				want, need := impl.VfsWalk(v, user0, p, path)
				got, code := impl.VfsWalk(back, user0, p, path)
				wantPlace(t, what+", ended: "+path, got, code, want, need)
			}
		}
	})
	if met < 100 {
		t.Errorf("one met %d nodes of second file systems", met)
	}
}

// Files below the folder are met just by other names.
func TestVfsMountHidesFilesBelowTheFolder(t *testing.T) {
	w := mounted(townFs(), 3, hillFs())
	if slices.Contains(metBy(w), at(0, 6)) || !slices.Contains(metBy(apart(townFs(), hillFs())), at(0, 6)) {
		t.Errorf("a file below the folder is met")
	}
	if list := metBy(mounted(homeFs(), 3, hillFs())); !slices.Contains(list, at(0, 5)) || slices.Contains(list, at(0, 6)) {
		t.Errorf("one meets %v", list)
	}
}

// Promise 80.
func TestVfsWalkLeadsTheUser0Too(t *testing.T) {
	seen := 0
	eachWalk(func(what string, v impl.Vfs, c impl.Cred, p impl.Place, path string) {
		got, code := impl.VfsWalk(v, user0, p, path)
		for _, x := range []impl.Cred{c, user2, user3, user4} {
			want, need := impl.VfsWalk(v, x, p, path)
			if need == 0 {
				seen++
				wantPlace(t, what, got, code, want, 0)
			}
		}
	})
	if seen < 1000 {
		t.Errorf("%d walks led somewhere", seen)
	}
}

// Where a call of a mount fails, and may be asked, all is as it was; where it may not be, for each sort of someone, too.
func TestVfsMountsThatFailChangeNothing(t *testing.T) {
	for _, x := range validVfss() {
		for _, c := range fewCreds() {
			for id, i := range x.vfs.Fss[0].Nodes {
				got, code := impl.VfsMount(x.vfs, c.cred, id)
				if i.Kind == 0 {
					wantVfsCode(t, x.name, got, code, impl.Vfs{}, 1)
				} else if code != 0 {
					wantVfs(t, x.name, got, x.vfs)
				}
				if code == 0 && c.cred.User != 0 {
					t.Fatalf("%s: %s mounts", x.name, c.name)
				}
			}
			got, code := impl.VfsUnmount(x.vfs, c.cred)
			if code != 0 {
				wantVfs(t, x.name, got, x.vfs)
			} else if c.cred.User != 0 {
				t.Fatalf("%s: %s ends a mount", x.name, c.name)
			}
		}
	}
}
