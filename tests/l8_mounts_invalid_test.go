package tests

import (
	"fmt"
	"testing"

	"loop.example/quarterdeck/impl"
)

// wantNothing checks that all calls with some arguments give nothing and ErrBad, or false.
func wantNothing(t *testing.T, what string, v impl.Vfs, c impl.Cred, p impl.Place, path string) {
	t.Helper()
	got, code := impl.VfsWalk(v, c, p, path)
	wantPlace(t, what+": VfsWalk", got, code, impl.Place{}, 1)
	got, step, code := impl.VfsParent(v, c, p, path)
	wantPlace(t, what+": VfsParent", got, code, impl.Place{}, 1)
	if step != "" {
		t.Fatalf("%s: VfsParent told the step %q", what, step)
	}
}

// wantNoMount checks that VfsMount gives nothing and ErrBad.
func wantNoMount(t *testing.T, what string, v impl.Vfs, c impl.Cred, id int) {
	t.Helper()
	got, code := impl.VfsMount(v, c, id)
	wantVfsCode(t, what+": VfsMount", got, code, impl.Vfs{}, 1)
}

// wantNoUnmount checks that VfsUnmount gives nothing and ErrBad.
func wantNoUnmount(t *testing.T, what string, v impl.Vfs, c impl.Cred) {
	t.Helper()
	got, code := impl.VfsUnmount(v, c)
	wantVfsCode(t, what+": VfsUnmount", got, code, impl.Vfs{}, 1)
}

// wantNoPath checks that VfsPath fails, with nothing.
func wantNoPath(t *testing.T, what string, v impl.Vfs, p impl.Place) {
	t.Helper()
	if path, ok := impl.VfsPath(v, p); path != "" || ok {
		t.Fatalf("%s: VfsPath of %v is %q, %v, want nothing", what, p, path, ok)
	}
}

// File systems that are not valid give nothing, whatever is asked.
func TestVfsCallsOfInvalidFileSystems(t *testing.T) {
	for _, x := range invalidVfss() {
		if impl.VfsOk(x.vfs) || vfsIsValid(x.vfs) {
			t.Fatalf("%s: VfsOk of %s", x.name, vfsText(x.vfs))
		}
		for _, c := range []impl.Cred{user0, user2} {
			for _, p := range []impl.Place{at(0, 0), at(0, 3), at(1, 0), at(2, 0)} {
				for _, path := range []string{"", "/", "a", "/..", "/m/no", "//"} {
					wantNothing(t, fmt.Sprintf("%s: %q from %v", x.name, path, p), x.vfs, c, p, path)
				}
				wantNoPath(t, x.name, x.vfs, p)
			}
			for _, id := range []int{-1, 0, 1, 2, 3, 4, 9, 10} {
				wantNoMount(t, fmt.Sprintf("%s: on %d", x.name, id), x.vfs, c, id)
			}
			wantNoUnmount(t, x.name, x.vfs, c)
		}
	}
}

// fewVfss have someone to walk, to mount and to end a mount in vain.
func fewVfss() []namedVfs {
	return []namedVfs{
		{"apart", apart(townFs(), hillFs())},
		{"mounted", mounted(townFs(), 3, hillFs())},
		{"mounted and open", mounted(townFs(), 3, withEdits(hillFs(), setOpens(1, 1)))},
		{"new ones", apart(newFs(0, 0o755), newFs(0, 0o755))},
		{"open files on a folder", mounted(takenFs(), 6, openFs())},
	}
}

// Someone who is not valid is told nothing, also where nobody may or nothing is there.
func TestVfsCallsOfInvalidCreds(t *testing.T) {
	for _, x := range fewVfss() {
		for _, c := range invalidCreds() {
			for _, p := range placesOf(x.vfs) {
				for _, path := range []string{"", "/", "a", "no", "..", "a/..", "/f/a", "/s/t"} {
					wantNothing(t, fmt.Sprintf("%s: %q from %v by %s", x.name, path, p, c.name), x.vfs, c.cred, p, path)
				}
			}
			for id := range 10 {
				wantNoMount(t, fmt.Sprintf("%s: on %d by %s", x.name, id, c.name), x.vfs, c.cred, id)
			}
			wantNoUnmount(t, x.name+" by "+c.name, x.vfs, c.cred)
		}
	}
}

// Places that are not there give nothing, also where the path begins with / and they are not needed.
func TestVfsCallsOfNoPlaces(t *testing.T) {
	for _, x := range fewVfss() {
		for _, p := range noPlaces(x.vfs) {
			for _, path := range []string{"", "/", "a", "/a", "..", "/..", "no", "/no", "/m/c", "/a/b/../../a/b"} {
				wantNothing(t, fmt.Sprintf("%s: %q from %v", x.name, path, p), x.vfs, user0, p, path)
			}
			wantNoPath(t, x.name, x.vfs, p)
		}
		for _, m := range greatNumbers() {
			for _, n := range greatNumbers() {
				wantNothing(t, x.name, x.vfs, user0, at(m, n), "/")
				wantNoPath(t, x.name, x.vfs, at(m, n))
			}
		}
	}
}

// Texts that are no path give nothing, wherever a walk begins.
func TestVfsCallsOfNoPaths(t *testing.T) {
	for _, x := range fewVfss() {
		for _, path := range noPaths() {
			for _, p := range []impl.Place{at(0, 0), at(1, 0), at(0, 1), at(0, 2)} {
				if hasPlace(x.vfs, p) {
					wantNothing(t, fmt.Sprintf("%s: %q from %v", x.name, path, p), x.vfs, user0, p, path)
				}
			}
		}
	}
}

// The numbers of no node of the first file system are nothing to mount on, also those of nodes of the second one, and also for who may not.
func TestVfsMountOfNoNodes(t *testing.T) {
	for _, x := range append(fewVfss(), namedVfs{"hill and town", apart(hillFs(), townFs())}) {
		for _, id := range append(notThere(x.vfs.Fss[0]), greatNumbers()...) {
			for _, c := range fewCreds() {
				wantNoMount(t, fmt.Sprintf("%s: on %d by %s", x.name, id, c.name), x.vfs, c.cred, id)
			}
		}
	}
}
