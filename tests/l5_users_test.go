package tests

import (
	"fmt"
	"testing"

	"loop.example/quarterdeck/impl"
)

func TestCredOkOfValidAndInvalid(t *testing.T) {
	for _, x := range validCreds() {
		if !impl.CredOk(x.cred) || !credIsValid(x.cred) {
			t.Errorf("%s: CredOk is false", x.name)
		}
	}
	for _, x := range invalidCreds() {
		if impl.CredOk(x.cred) || credIsValid(x.cred) {
			t.Errorf("%s: CredOk is true", x.name)
		}
	}
}

// Each list of at most four groups from -1 to 3, and around the greatest one.
func TestCredOkOfAllGroups(t *testing.T) {
	for _, least := range []int{-1, 6} {
		for k := range 6 * 6 * 6 * 6 {
			groups := []int{}
			for n := k; n > 0; n /= 6 {
				if n%6 > 0 {
					groups = append(groups, least+n%6-1)
				}
			}
			c := someone(3, 4, groups...)
			if impl.CredOk(c) != credIsValid(c) {
				t.Fatalf("CredOk of the groups %v is %v", groups, impl.CredOk(c))
			}
		}
	}
}

// Promise 43.
func TestCredOkIsThatOneMayBeWhoOneIs(t *testing.T) {
	for _, x := range allCreds() {
		_, ok := impl.CredBecome(x.cred, x.cred.User)
		if ok != impl.CredOk(x.cred) || ok != credIsValid(x.cred) {
			t.Errorf("%s: CredBecome of one's own user is %v, and CredOk %v", x.name, ok, impl.CredOk(x.cred))
		}
	}
}

// Promise 44: all modes, and all of what.
func TestModeMayIsThatOfEachPartOfWhat(t *testing.T) {
	for _, x := range fewCreds() {
		for _, of := range [][2]int{{2, 5}, {0, 0}, {3, 9}, {9, 2}, {4, 4}} {
			for mode := range 512 {
				for what := 1; what <= 7; what++ {
					got, all := impl.ModeMay(x.cred, of[0], of[1], mode, what), true
					for _, part := range []int{4, 2, 1} {
						if what&part != 0 && !impl.ModeMay(x.cred, of[0], of[1], mode, part) {
							all = false
						}
					}
					if got != all || got != mayDo(x.cred, of[0], of[1], mode, what) {
						t.Fatalf("%s: ModeMay of %d with something of %v and the mode %03o is %v, and %v of its parts", x.name, what, of, mode, got, all)
					}
				}
			}
		}
	}
}

// Promise 44: all users, real users, owners and groups.
func TestModeMayOfAllUsers(t *testing.T) {
	for k, x := range validCreds() {
		for n := range 100 {
			mode, what := (37*k+101*n)%512, 1+(k+n)%7
			if got := impl.ModeMay(x.cred, n%10, n/10, mode, what); got != mayDo(x.cred, n%10, n/10, mode, what) {
				t.Fatalf("%s: ModeMay of %d with something of %d, %d and the mode %03o is %v", x.name, what, n%10, n/10, mode, got)
			}
		}
	}
}

// Promise 44: the user 0 may read and write whatever the mode is, and go through if any digit says so.
func TestModeMayOfTheUser0(t *testing.T) {
	for _, c := range []impl.Cred{someone(0, 0), someone(0, 3), someone(0, 2, 5), someone(0, 0, 0, 5, 9)} {
		for mode := range 512 {
			for owner := range 10 {
				for _, what := range []int{2, 4, 6} {
					if !impl.ModeMay(c, owner, 5, mode, what) {
						t.Fatalf("%v may not do %d with something of %d and the mode %03o", c, what, owner, mode)
					}
				}
				for _, what := range []int{1, 3, 5, 7} {
					if impl.ModeMay(c, owner, 5, mode, what) != (mode&0o111 != 0) {
						t.Fatalf("ModeMay of %d with something of %d and the mode %03o is wrong of %v", what, owner, mode, c)
					}
				}
			}
		}
	}
}

// ModeMay does not hold if anything is not in its range or not valid, though all else may be done.
func TestModeMayOfWhatIsNotValid(t *testing.T) {
	for _, c := range []impl.Cred{someone(0, 0), someone(2, 2, 5), someone(3, 3, 5), someone(4, 4)} {
		if !impl.ModeMay(c, 2, 5, 511, 7) {
			t.Fatalf("%v may not do all", c)
		}
		for _, n := range noUsers() {
			if impl.ModeMay(c, n, 5, 511, 4) || impl.ModeMay(c, 2, n, 511, 4) || impl.ModeMay(c, n, n, 511, 7) {
				t.Errorf("ModeMay of %v with an owner or a group %d is true", c, n)
			}
		}
		for _, mode := range noModes() {
			for what := 1; what <= 7; what++ {
				if impl.ModeMay(c, 2, 5, mode, what) {
					t.Errorf("ModeMay of %v with the mode %d is true", c, mode)
				}
			}
		}
		for _, what := range noWhats() {
			if impl.ModeMay(c, 2, 5, 511, what) || impl.ModeMay(c, 2, 5, 0, what) {
				t.Errorf("ModeMay of %v of %d is true", c, what)
			}
		}
	}
	for _, x := range invalidCreds() {
		for what := 1; what <= 7; what++ {
			if impl.ModeMay(x.cred, 2, 5, 511, what) || impl.ModeMay(x.cred, 0, 0, 511, what) {
				t.Errorf("%s: ModeMay of %d is true", x.name, what)
			}
		}
		if n := x.cred.User; impl.ModeMay(x.cred, n, n, 511, 4) {
			t.Errorf("%s: ModeMay with something of one's own is true", x.name)
		}
	}
}

// Promise 45.
func TestModeReadOfModeTextIsTheMode(t *testing.T) {
	for mode := range 512 {
		text := impl.ModeText(mode)
		if got, ok := impl.ModeRead(text); got != mode || !ok || len(text) != 9 {
			t.Fatalf("ModeRead of %q is %03o, %v, want %03o", text, got, ok, mode)
		}
	}
}

// Promise 46: of all texts of nine signs that are some of four.
func TestModeTextOfModeReadIsTheText(t *testing.T) {
	found := 0
	for k := range 1 << 18 {
		signs := []byte{}
		for at := range 9 {
			signs = append(signs, "-rwx"[k>>(2*at)&3])
		}
		text := string(signs)
		mode, ok := impl.ModeRead(text)
		if ok && (impl.ModeText(mode) != text || modeSigns(mode) != text) || !ok && mode != 0 {
			t.Fatalf("ModeRead of %q is %d, %v, and ModeText of that %q", text, mode, ok, impl.ModeText(mode))
		}
		if ok {
			found++
		}
	}
	if found != 512 {
		t.Errorf("%d texts are modes", found)
	}
}

// Promise 47.
func TestCredBecomeIsWhoOneMayBe(t *testing.T) {
	for _, x := range validCreds() {
		for _, user := range usersToTry() {
			what := fmt.Sprintf("%s: CredBecome %d", x.name, user)
			got, ok := impl.CredBecome(x.cred, user)
			want := impl.Cred{User: user, Real: x.cred.Real, Groups: x.cred.Groups}
			if x.cred.User == 0 {
				want.Real = user
			}
			may := x.cred.User == 0 || user == x.cred.User || user == x.cred.Real
			if !may || user < 0 || user > 9 {
				wantNobody(t, what, got, ok)
				continue
			}
			wantIs(t, what, got, ok, want)
			if !impl.CredOk(got) {
				t.Fatalf("%s: %v is not valid", what, got)
			}
		}
	}
}

// Promise 47: nobody becomes the user 0 who is it neither as user nor really, by as many calls as one likes.
func TestNobodyBecomesTheUser0(t *testing.T) {
	for _, x := range validCreds() {
		if x.cred.User == 0 || x.cred.Real == 0 {
			continue
		}
		for _, first := range usersToTry() {
			one, ok := impl.CredBecome(x.cred, first)
			if !ok {
				continue
			}
			for _, second := range usersToTry() {
				two, ok := impl.CredBecome(one, second)
				if ok && (two.User == 0 || two.Real != x.cred.Real) || one.User == 0 {
					t.Fatalf("%s: is %v by CredBecome %d, and %v by %d", x.name, one, first, two, second)
				}
			}
		}
	}
}

// Promise 48.
func TestCredRunIsTheOwnerTillOneIsRealAgain(t *testing.T) {
	for _, x := range validCreds() {
		for _, owner := range usersToTry() {
			what := fmt.Sprintf("%s: CredRun of %d", x.name, owner)
			got, ok := impl.CredRun(x.cred, owner)
			if owner < 0 || owner > 9 {
				wantNobody(t, what, got, ok)
				continue
			}
			wantIs(t, what, got, ok, impl.Cred{User: owner, Real: x.cred.Real, Groups: x.cred.Groups})
			if !impl.CredOk(got) {
				t.Fatalf("%s: %v is not valid", what, got)
			}
			again, ok := impl.CredBecome(got, x.cred.Real)
			wantIs(t, what+", and CredBecome of the real user", again, ok, impl.Cred{User: x.cred.Real, Real: x.cred.Real, Groups: x.cred.Groups})
		}
	}
}

// Promise 49.
func TestCredSignalOfAllUsers(t *testing.T) {
	list := allUsers()
	for _, x := range list {
		if !impl.CredSignal(x.cred, x.cred) {
			t.Fatalf("%s: CredSignal of oneself is false", x.name)
		}
		for _, y := range list {
			a, b := x.cred, y.cred
			got, back := impl.CredSignal(a, b), impl.CredSignal(b, a)
			want := a.User == 0 || a.User == b.User || a.User == b.Real || a.Real == b.User || a.Real == b.Real
			if got != want || a.User != 0 && b.User != 0 && got != back {
				t.Fatalf("CredSignal of %s and %s is %v, and the other way %v", x.name, y.name, got, back)
			}
		}
	}
}

func TestCredCallsOfWhoIsNotValid(t *testing.T) {
	for _, x := range invalidCreds() {
		for _, user := range append(usersToTry(), x.cred.User, x.cred.Real) {
			got, ok := impl.CredBecome(x.cred, user)
			wantNobody(t, fmt.Sprintf("%s: CredBecome %d", x.name, user), got, ok)
			got, ok = impl.CredRun(x.cred, user)
			wantNobody(t, fmt.Sprintf("%s: CredRun of %d", x.name, user), got, ok)
		}
		for _, y := range append(fewCreds(), invalidCreds()...) {
			if impl.CredSignal(x.cred, y.cred) || impl.CredSignal(y.cred, x.cred) {
				t.Fatalf("CredSignal of %s and %s, either way, is true", x.name, y.name)
			}
		}
	}
}

// Promise 50.
func TestADigitOf0IsNothing(t *testing.T) {
	owners := []impl.Cred{someone(2, 2), someone(2, 9), someone(2, 0), someone(2, 2, 5), someone(2, 3, 0, 5, 9)}
	groups := []impl.Cred{someone(3, 3, 5), someone(3, 2, 5), someone(3, 0, 0, 5), someone(9, 9, 3, 4, 5), someone(1, 1, 5, 6, 7)}
	for what := 1; what <= 7; what++ {
		for digits := range 64 {
			ownerNone, groupNone := digits, digits/8*64+digits%8
			for _, c := range owners {
				if impl.ModeMay(c, 2, 5, ownerNone, what) {
					t.Fatalf("the owner %v may do %d with the mode %03o", c, what, ownerNone)
				}
			}
			for _, c := range groups {
				if impl.ModeMay(c, 2, 5, groupNone, what) {
					t.Fatalf("%v, in the group, may do %d with the mode %03o", c, what, groupNone)
				}
			}
			for _, mode := range []int{ownerNone, groupNone} {
				free := what%2 == 0 || mode&0o111 != 0
				if impl.ModeMay(someone(0, 0), 0, 5, mode, what) != free || impl.ModeMay(someone(0, 0, 5), 2, 5, mode, what) != free {
					t.Fatalf("the user 0 is bound by the mode %03o, for %d", mode, what)
				}
			}
		}
	}
}

// Promise 51.
func TestTheUser0DoesNotComeBack(t *testing.T) {
	for _, x := range validCreds() {
		if x.cred.User != 0 {
			continue
		}
		for user := 1; user <= 9; user++ {
			other, ok := impl.CredBecome(x.cred, user)
			wantIs(t, fmt.Sprintf("%s: CredBecome %d", x.name, user), other, ok, impl.Cred{User: user, Real: user, Groups: x.cred.Groups})
			for _, back := range usersToTry() {
				got, ok := impl.CredBecome(other, back)
				if back != user {
					wantNobody(t, fmt.Sprintf("%s: CredBecome %d, and then %d", x.name, user, back), got, ok)
					continue
				}
				wantIs(t, fmt.Sprintf("%s: CredBecome %d twice", x.name, user), got, ok, other)
			}
		}
	}
}
