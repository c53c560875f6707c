package tests

import (
	"fmt"
	"math/rand"
	"strings"
	"testing"

	"loop.example/quarterdeck/impl"
)

// The model of chapter 8 knows of no links: it looks through the entries of all folders for each step.

// stepsOf tells, without the program, whether a path begins with /, its steps, and whether it is one.
func stepsOf(path string) (bool, []string, bool) {
	if !pathForm.MatchString(path) {
		return false, nil, false
	}
	return len(path) > 0 && path[0] == '/', stepForm.FindAllString(path, -1), true
}

// folderWith is the number of the first folder that has an entry to a node, or that of the node, if none has.
func folderWith(f impl.Fs, id int) int {
	for above, i := range f.Nodes {
		for _, e := range i.Names {
			if e.Id == id {
				return above
			}
		}
	}
	return id
}

// across is node 0 of the second file system where that is mounted, and else the place.
func across(v impl.Vfs, p impl.Place) impl.Place {
	if p == at(0, v.Mount) {
		return at(1, 0)
	}
	return p
}

// modelUp is the place of the folder above.
func modelUp(v impl.Vfs, p impl.Place) impl.Place {
	if p == at(1, 0) && v.Mount != -1 {
		p = at(0, v.Mount)
	}
	return across(v, at(p.Fs, folderWith(v.Fss[p.Fs], p.Id)))
}

// modelStep is where a step leads, and the code.
func modelStep(v impl.Vfs, c impl.Cred, p impl.Place, step string) (impl.Place, int) {
	f := v.Fss[p.Fs]
	code := codeOf(noFolder(f, p.Id), noWay(f, c, p.Id, 1), codeIf(2, func() bool { return step != ".." && idOf(f, p.Id, step) < 0 }))
	switch {
	case code != 0:
		return impl.Place{}, code
	case step == "..":
		return modelUp(v, p), 0
	}
	return across(v, at(p.Fs, idOf(f, p.Id, step))), 0
}

// hasPlace tells whether file systems have a place.
func hasPlace(v impl.Vfs, p impl.Place) bool {
	return rangeIsValid(p.Fs, 0, 1) && isThere(v.Fss[p.Fs], p.Id)
}

// modelSteps is where steps lead, one after the other, and the code.
func modelSteps(v impl.Vfs, c impl.Cred, p impl.Place, rooted bool, steps []string) (impl.Place, int) {
	if rooted {
		p = at(0, 0)
	}
	p = across(v, p)
	for _, step := range steps {
		to, code := modelStep(v, c, p, step)
		if code != 0 {
			return impl.Place{}, code
		}
		p = to
	}
	return p, 0
}

// walkIsValid tells whether the arguments of a walk are valid.
func walkIsValid(v impl.Vfs, c impl.Cred, p impl.Place, path string) bool {
	_, _, ok := stepsOf(path)
	return ok && vfsIsValid(v) && credIsValid(c) && hasPlace(v, p)
}

func modelWalk(v impl.Vfs, c impl.Cred, p impl.Place, path string) (impl.Place, int) {
	if !walkIsValid(v, c, p, path) {
		return impl.Place{}, 1
	}
	rooted, steps, _ := stepsOf(path)
	return modelSteps(v, c, p, rooted, steps)
}

func modelParent(v impl.Vfs, c impl.Cred, p impl.Place, path string) (impl.Place, string, int) {
	if !walkIsValid(v, c, p, path) {
		return impl.Place{}, "", 1
	}
	rooted, steps, _ := stepsOf(path)
	if len(steps) == 0 || strings.HasSuffix(path, "..") {
		return impl.Place{}, "", 6
	}
	name := steps[len(steps)-1]
	to, code := modelSteps(v, c, p, rooted, steps[:len(steps)-1])
	if code == 0 && inodeAt(v, to).Kind == 1 {
		to, code = impl.Place{}, 4
	}
	if code != 0 {
		name = ""
	}
	return to, name, code
}

func modelMount(v impl.Vfs, c impl.Cred, id int) (impl.Vfs, int) {
	if !vfsIsValid(v) || !credIsValid(c) || !isThere(v.Fss[0], id) {
		return impl.Vfs{}, 1
	}
	i := v.Fss[0].Nodes[id]
	code := codeOf(codeIf(5, func() bool { return c.User != 0 }), codeIf(6, func() bool { return v.Mount != -1 || id == 0 }), noFolder(v.Fss[0], id), codeIf(6, func() bool { return i.Opens == 99 }))
	if code != 0 {
		return v, code
	}
	return mounted(v.Fss[0], id, v.Fss[1]), 0
}

func modelUnmount(v impl.Vfs, c impl.Cred) (impl.Vfs, int) {
	if !vfsIsValid(v) || !credIsValid(c) {
		return impl.Vfs{}, 1
	}
	code := codeOf(codeIf(5, func() bool { return c.User != 0 }), codeIf(2, func() bool { return v.Mount == -1 }), codeIf(6, func() bool {
		return !vfsIsValid(impl.Vfs{Fss: v.Fss, Mount: -1})
	}))
	if code != 0 {
		return v, code
	}
	return withVfsEdits(v, inFs(0, setOpens(v.Mount, v.Fss[0].Nodes[v.Mount].Opens-1)), setMount(-1)), 0
}

// modelPaths are the paths of all folders, told by going down from the beginning to whatever has a name.
func modelPaths(v impl.Vfs) map[impl.Place]string {
	paths := map[impl.Place]string{at(0, 0): "/"}
	list := []impl.Place{at(0, 0)}
	for len(list) > 0 {
		p := list[0]
		list = list[1:]
		for _, e := range inodeAt(v, p).Names {
			to := across(v, at(p.Fs, e.Id))
			if inodeAt(v, to).Kind == 2 {
				paths[to] = strings.TrimSuffix(paths[p], "/") + "/" + e.Name
				list = append(list, to)
			}
		}
	}
	if v.Mount != -1 {
		paths[at(0, v.Mount)] = paths[at(1, 0)]
	}
	return paths
}

func modelPath(v impl.Vfs, p impl.Place) (string, bool) {
	if !vfsIsValid(v) {
		return "", false
	}
	path, ok := modelPaths(v)[p]
	return path, ok
}

// namesOf are a few of the names that file systems have, and one that they have not.
func namesOf(v impl.Vfs) []string {
	list := []string{"no"}
	seen := map[string]bool{}
	for _, p := range foldersOf(v) {
		for _, e := range inodeAt(v, p).Names {
			if !seen[e.Name] {
				seen[e.Name] = true
				list = append(list, e.Name)
			}
		}
	}
	return list
}

// shortPaths are all paths of at most two steps of names that file systems have, and with .. among them.
func shortPaths(v impl.Vfs) []string {
	list := []string{"", "/"}
	steps := append(namesOf(v), "..")
	for _, one := range steps {
		list = append(list, one, "/"+one)
		for _, two := range steps {
			list = append(list, one+"/"+two, "/"+one+"/"+two)
		}
	}
	return list
}

// randomPath is a path that mostly leads somewhere, and goes back at times.
func randomPath(r *rand.Rand, v impl.Vfs, p impl.Place) string {
	path := ""
	if r.Intn(3) == 0 {
		path, p = "/", at(0, 0)
	}
	p = across(v, p)
	for k := range r.Intn(8) {
		step := pick(r, []string{"..", "..", "a", "no"})
		if names := inodeAt(v, p).Names; len(names) > 0 && r.Intn(4) > 0 {
			step = pick(r, names).Name
		}
		if k > 0 {
			path += "/"
		}
		path += step
		if to, code := modelStep(v, someone(0, 0), p, step); code == 0 {
			p = to
		}
	}
	return path
}

// vfsWalk is file systems to which calls lead, as the model tells.
type vfsWalk struct {
	r   *rand.Rand
	vfs impl.Vfs
}

func newVfsWalk(seed int64) *vfsWalk {
	r := rand.New(rand.NewSource(seed))
	return &vfsWalk{r: r, vfs: pick(r, writtenVfss()).vfs}
}

// step changes a file system, or the mount; it tells what was tried, also if that is not valid, in which case it goes nowhere.
func (w *vfsWalk) step() impl.Vfs {
	next := w.vfs
	switch w.r.Intn(9) {
	case 0:
		next, _ = modelMount(w.vfs, someone(0, 0), w.r.Intn(10))
	case 1:
		next, _ = modelUnmount(w.vfs, someone(0, 0))
	default:
		k := w.r.Intn(2)
		did := pick(w.r, fsFunctions())
		got := did.want(w.vfs.Fss[k], randomArgs(w.r, w.vfs.Fss[k], did))
		if len(got.fs.Nodes) > 0 {
			next = cloneVfs(w.vfs)
			next.Fss[k] = got.fs
		}
	}
	if vfsIsValid(next) {
		w.vfs = next
	}
	return next
}

// walkedVfss are some of those to which a walk leads.
func walkedVfss(seed int64) []namedVfs {
	w, list := newVfsWalk(seed), []namedVfs{}
	for n := range 300 {
		w.step()
		if n == 20 || n == 80 || n == 180 || n == 299 {
			list = append(list, namedVfs{fmt.Sprintf("walk %d, step %d", seed, n), w.vfs})
		}
	}
	return list
}

// wantLikeModel checks all calls of a place and a path by someone, and tells the codes.
func wantLikeModel(t *testing.T, what string, v impl.Vfs, c impl.Cred, p impl.Place, path string, seen map[string]int) {
	t.Helper()
	what = fmt.Sprintf("%s: %q from %v by %v", what, path, p, c)
	got, code := impl.VfsWalk(v, c, p, path)
	want, need := modelWalk(v, c, p, path)
	wantPlace(t, what, got, code, want, need)
	seen[fmt.Sprintf("VfsWalk %d", code)]++
	got, name, code := impl.VfsParent(v, c, p, path)
	want, step, need := modelParent(v, c, p, path)
	wantPlace(t, what+": VfsParent", got, code, want, need)
	if name != step {
		t.Fatalf("%s: VfsParent told the step %q, want %q", what, name, step)
	}
	seen[fmt.Sprintf("VfsParent %d", code)]++
}

// wantMountsLikeModel checks a mount, and its end, by someone, and tells the codes.
func wantMountsLikeModel(t *testing.T, what string, v impl.Vfs, c impl.Cred, id int, seen map[string]int) {
	t.Helper()
	got, code := impl.VfsMount(v, c, id)
	want, need := modelMount(v, c, id)
	wantVfsCode(t, fmt.Sprintf("%s: VfsMount on %d by %v", what, id, c), got, code, want, need)
	seen[fmt.Sprintf("VfsMount %d", code)]++
	got, code = impl.VfsUnmount(v, c)
	want, need = modelUnmount(v, c)
	wantVfsCode(t, fmt.Sprintf("%s: VfsUnmount by %v", what, c), got, code, want, need)
	seen[fmt.Sprintf("VfsUnmount %d", code)]++
}

// wantPathLikeModel checks VfsPath of a place.
func wantPathLikeModel(t *testing.T, what string, v impl.Vfs, p impl.Place, seen map[string]int) {
	t.Helper()
	path, ok := impl.VfsPath(v, p)
	want, need := modelPath(v, p)
	if path != want || ok != need {
		t.Fatalf("%s: VfsPath of %v is %q, %v, want %q, %v", what, p, path, ok, want, need)
	}
	seen[fmt.Sprintf("VfsPath %v", ok)]++
}

// wantCodesMet checks that each of some codes was met.
func wantCodesMet(t *testing.T, seen map[string]int, name string, codes ...any) {
	t.Helper()
	for _, code := range codes {
		if seen[fmt.Sprintf("%s %v", name, code)] < 10 {
			t.Errorf("%s %v was met %d times", name, code, seen[fmt.Sprintf("%s %v", name, code)])
		}
	}
}

// Promises 71 to 80 along walks: each call returns what the model does, also where file systems are not valid; in the end all codes were met.
func TestVfsWalks(t *testing.T) {
	seen := map[string]int{}
	for seed := range 24 {
		w := newVfsWalk(int64(seed))
		for n := range 100 {
			what := fmt.Sprintf("walk %d, step %d", seed, n)
			next := w.step()
			if got := impl.VfsOk(next); got != vfsIsValid(next) {
				t.Fatalf("%s: VfsOk is %v of %s", what, got, vfsText(next))
			}
			seen[fmt.Sprintf("VfsOk %v", vfsIsValid(next))]++
			what += " to " + vfsText(w.vfs)
			for range 4 {
				c, p := pick(w.r, fewCreds()).cred, pick(w.r, placesOf(w.vfs))
				wantLikeModel(t, what, w.vfs, c, p, randomPath(w.r, w.vfs, p), seen)
				wantMountsLikeModel(t, what, w.vfs, pick(w.r, fewCreds()).cred, w.r.Intn(10), seen)
				wantPathLikeModel(t, what, w.vfs, at(w.r.Intn(2), w.r.Intn(10)), seen)
			}
		}
	}
	wantCodesMet(t, seen, "VfsOk", true, false)
	wantCodesMet(t, seen, "VfsWalk", 0, 1, 2, 4, 5)
	wantCodesMet(t, seen, "VfsParent", 0, 1, 2, 4, 5, 6)
	wantCodesMet(t, seen, "VfsMount", 0, 1, 4, 5, 6)
	wantCodesMet(t, seen, "VfsUnmount", 0, 2, 5, 6)
	wantCodesMet(t, seen, "VfsPath", true, false)
}

// Each written one, and some others, with short paths and others from all places, and each place.
func TestVfsCallsLikeTheModel(t *testing.T) {
	seen := map[string]int{}
	r := rand.New(rand.NewSource(1))
	for _, x := range validVfss() {
		v := x.vfs
		paths := append(shortPaths(v), oddPaths()...)
		for _, p := range placesOf(v) {
			for k := range 16 {
				// The user 0 goes through most.
				c := someone(0, 0)
				if k%2 == 0 {
					c = pick(r, fewCreds()).cred
				}
				wantLikeModel(t, x.name, v, c, p, pick(r, paths), seen)
				wantLikeModel(t, x.name, v, c, p, randomPath(r, v, p), seen)
			}
			wantPathLikeModel(t, x.name, v, p, seen)
		}
		for _, p := range noPlaces(v) {
			wantPathLikeModel(t, x.name, v, p, seen)
		}
		for _, c := range fewCreds() {
			for id := range 10 {
				wantMountsLikeModel(t, x.name, v, c.cred, id, seen)
			}
		}
	}
	wantCodesMet(t, seen, "VfsWalk", 0, 1, 2, 4, 5)
	wantCodesMet(t, seen, "VfsParent", 0, 1, 2, 4, 5, 6)
	wantCodesMet(t, seen, "VfsMount", 0, 1, 4, 5, 6)
	wantCodesMet(t, seen, "VfsUnmount", 0, 2, 5, 6)
}

// The whole of some: each short path from each place by each sort of someone.
func TestVfsWalksOfAllShortPaths(t *testing.T) {
	seen := map[string]int{}
	for _, x := range []namedVfs{{"hill on m", mounted(townFs(), 3, hillFs())}, {"back on b/c", mounted(backFs(), 1, backFs())}} {
		for _, path := range shortPaths(x.vfs) {
			for _, p := range placesOf(x.vfs) {
				for _, c := range fewCreds()[:6] {
					wantLikeModel(t, x.name, x.vfs, c.cred, p, path, seen)
				}
			}
		}
	}
	wantCodesMet(t, seen, "VfsWalk", 0, 2, 4, 5)
}
