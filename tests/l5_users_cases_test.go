package tests

import (
	"fmt"
	"testing"

	"loop.example/quarterdeck/impl"
)

func TestUsersConstants(t *testing.T) {
	if impl.UserMax != 9 || impl.GroupMany != 3 {
		t.Errorf("UserMax is %d and GroupMany %d", impl.UserMax, impl.GroupMany)
	}
}

// What each one of some may do with something of the owner 2 and the group 5, or of other ones, is written out: the greatest of what, and all parts of it.
func TestModeMayCases(t *testing.T) {
	for _, x := range []struct {
		name               string
		cred               impl.Cred
		owner, group, mode int
		may                int
	}{
		{"the owner, by the first digit", someone(2, 2), 2, 5, 0o421, 4},
		{"the owner, by all digits", someone(2, 2), 2, 5, 0o777, 7},
		{"the owner, whose digit is 0", someone(2, 2), 2, 5, 0o077, 0},
		{"the owner, who is in the group, too", someone(2, 2, 5), 2, 5, 0o124, 1},
		{"the owner, who is in the group, and whose digit is 0", someone(2, 2, 5), 2, 5, 0o077, 0},
		{"just really the owner", someone(3, 2), 2, 5, 0o700, 0},
		{"just really the owner, as others", someone(3, 2), 2, 5, 0o703, 3},
		{"the owner, really another one", someone(2, 3), 2, 5, 0o640, 6},
		{"in the group, by the second digit", someone(3, 3, 5), 2, 5, 0o421, 2},
		{"in the group, whose digit is 0", someone(3, 3, 5), 2, 5, 0o707, 0},
		{"in the group by the first one of three", someone(3, 3, 5, 7, 8), 2, 5, 0o010, 1},
		{"in the group by the second one of three", someone(3, 3, 1, 5, 8), 2, 5, 0o060, 6},
		{"in the group by the last one of three", someone(3, 3, 0, 1, 5), 2, 5, 0o050, 5},
		{"in the group 0", someone(3, 3, 0), 2, 0, 0o070, 7},
		{"in the group 9", someone(3, 3, 9), 2, 9, 0o070, 7},
		{"others, by the third digit", someone(3, 3), 2, 5, 0o421, 1},
		{"others, whose digit is 0", someone(3, 3), 2, 5, 0o770, 0},
		{"others, in groups around it", someone(3, 3, 4, 6), 2, 5, 0o772, 2},
		{"others, of the user's own number as a group", someone(5, 5), 2, 5, 0o770, 0},
		{"others, with the owner as a group", someone(3, 3, 2), 2, 5, 0o770, 0},
		{"the user 0, with no digit", someone(0, 0), 2, 5, 0, 6},
		{"the user 0, where nobody may go through", someone(0, 0), 2, 5, 0o666, 6},
		{"the user 0, where just the owner may go through", someone(0, 0), 2, 5, 0o100, 7},
		{"the user 0, where just the group may go through", someone(0, 0), 2, 5, 0o010, 7},
		{"the user 0, where just others may go through", someone(0, 0), 2, 5, 0o001, 7},
		{"the user 0 as the owner, whose digit is 0", someone(0, 0), 0, 5, 0o007, 7},
		{"the user 0 as the owner, with no digit", someone(0, 0), 0, 0, 0, 6},
		{"the user 0, in the group whose digit is 0", someone(0, 0, 5), 2, 5, 0o701, 7},
		{"the user 0, really another one", someone(0, 3), 2, 5, 0, 6},
		{"the user 0, really the owner", someone(0, 2), 2, 5, 0o100, 7},
		{"just really the user 0", someone(3, 0), 2, 5, 0o770, 0},
		{"just really the user 0, of what that owns", someone(3, 0), 0, 5, 0o771, 1},
		{"the group 0 of one who is not the user 0", someone(3, 3, 0), 2, 5, 0o771, 1},
		{"the greatest numbers", someone(9, 9, 9), 9, 9, 0o300, 3},
		{"the greatest mode", someone(3, 3), 2, 5, 511, 7},
	} {
		for what := 1; what <= 7; what++ {
			if got := impl.ModeMay(x.cred, x.owner, x.group, x.mode, what); got != (what&^x.may == 0) {
				t.Errorf("%s: ModeMay of %d with the mode %03o is %v", x.name, what, x.mode, got)
			}
		}
	}
}

func TestModeTextCases(t *testing.T) {
	for mode, want := range map[int]string{
		0: "---------", 511: "rwxrwxrwx", 493: "rwxr-xr-x", 0o644: "rw-r--r--", 0o100: "--x------", 0o200: "-w-------", 0o400: "r--------",
		0o010: "-----x---", 0o020: "----w----", 0o040: "---r-----", 1: "--------x", 2: "-------w-", 4: "------r--", 0o124: "--x-w-r--", 0o653: "rw-r-x-wx",
	} {
		if got := impl.ModeText(mode); got != want {
			t.Errorf("ModeText of %03o is %q, want %q", mode, got, want)
		}
		if got, ok := impl.ModeRead(want); got != mode || !ok {
			t.Errorf("ModeRead of %q is %03o, %v, want %03o", want, got, ok, mode)
		}
	}
	for _, mode := range noModes() {
		if got := impl.ModeText(mode); got != "" {
			t.Errorf("ModeText of %d is %q", mode, got)
		}
	}
}

// Texts that are no mode are told 0 and false.
func TestModeReadOfOtherTexts(t *testing.T) {
	texts := []string{
		"", "-", "r", "rwx", "rwxrwx", "rwxrwxrw", "--------", "rwxrwxrwxr", "----------", "rwxrwxrwx\n", " rwxrwxrwx", "-rwxrwxrwx", "rwxrwxrwxrwx", "rwxrwxrwxrwxrwxrwx",
		"rrrrrrrrr", "wwwwwwwww", "xxxxxxxxx", "wrxrwxrwx", "rxwrwxrwx", "xwrrwxrwx", "xwrxwrxwr", "wxrwxrwxr", "RWXRWXRWX", "rwxrwxrwX", "rwsr-xr-x", "rwxr-xr-t", "rwxrwxrw ", "rwxrwxrw\x00",
		"755", "000000755", "000000000", "111111111", "rwx------\xff", "\xff\xff\xff\xff\xff\xff\xff\xff\xff", "\x00\x00\x00\x00\x00\x00\x00\x00\x00", "———", "rwxrwx---é", "rwxrwxré",
		"--- --- ---", "rwx,rwx,rwx", "_________", "+++++++++",
	}
	for _, s := range texts {
		if mode, ok := impl.ModeRead(s); mode != 0 || ok {
			t.Errorf("ModeRead of %q is %d, %v", s, mode, ok)
		}
	}
}

// Each sign at each place of a text that is a mode, whatever the others are.
func TestModeReadOfEachSignAtEachPlace(t *testing.T) {
	for _, base := range []string{"---------", "rwxrwxrwx", "rw-r-x-wx"} {
		for at := range 9 {
			for b := range 256 {
				s := base[:at] + string([]byte{byte(b)}) + base[at+1:]
				mode, ok := impl.ModeRead(s)
				fits := byte(b) == '-' || byte(b) == "rwxrwxrwx"[at]
				if ok != fits || !ok && mode != 0 || ok && modeSigns(mode) != s {
					t.Fatalf("ModeRead of %q is %d, %v", s, mode, ok)
				}
			}
		}
		for at := range 10 {
			for _, sign := range []string{"-", "r", "w", "x"} {
				longer := base[:at] + sign + base[at:]
				if mode, ok := impl.ModeRead(longer); mode != 0 || ok {
					t.Fatalf("ModeRead of %q is %d, %v", longer, mode, ok)
				}
			}
		}
		for many := range 9 {
			for _, shorter := range []string{base[:many], base[9-many:]} {
				if mode, ok := impl.ModeRead(shorter); mode != 0 || ok {
					t.Fatalf("ModeRead of %q is %d, %v", shorter, mode, ok)
				}
			}
		}
	}
}

func TestCredBecomeCases(t *testing.T) {
	for _, x := range []struct {
		name string
		cred impl.Cred
		user int
		want impl.Cred
	}{
		{"the user 0, itself", someone(0, 0, 3), 0, someone(0, 0, 3)},
		{"the user 0, another one", someone(0, 0), 3, someone(3, 3)},
		{"the user 0, the greatest one", someone(0, 0, 1, 2, 3), 9, someone(9, 9, 1, 2, 3)},
		{"the user 0, really another one, itself", someone(0, 4), 0, someone(0, 0)},
		{"the user 0, really another one, that", someone(0, 4, 7), 4, someone(4, 4, 7)},
		{"the user 0, really another one, a third one", someone(0, 4), 5, someone(5, 5)},
		{"others, who they are", someone(3, 5, 1, 9), 3, someone(3, 5, 1, 9)},
		{"others, their real user", someone(3, 5, 1, 9), 5, someone(5, 5, 1, 9)},
		{"others, who they are, and really", someone(3, 3), 3, someone(3, 3)},
		{"others, the user 0, which they really are", someone(3, 0, 0), 0, someone(0, 0, 0)},
		{"others, who they are, really the user 0", someone(3, 0), 3, someone(3, 0)},
	} {
		got, ok := impl.CredBecome(x.cred, x.user)
		wantIs(t, "CredBecome, "+x.name, got, ok, x.want)
	}
	for _, x := range []struct {
		name string
		cred impl.Cred
		user int
	}{
		{"others, a third one", someone(3, 5), 4},
		{"others, the user 0", someone(3, 5), 0},
		{"others, the user 0, in the group 0", someone(3, 3, 0), 0},
		{"others, a group of theirs", someone(3, 5, 4), 4},
		{"really the user 0, a third one", someone(3, 0), 4},
		{"the user 0, one beyond the greatest one", someone(0, 0), 10},
		{"the user 0, one below the least one", someone(0, 0), -1},
		{"who is not valid", someone(0, 0, 5, 5), 3},
		{"who is not valid, who they are", someone(10, 10), 10},
	} {
		got, ok := impl.CredBecome(x.cred, x.user)
		wantNobody(t, "CredBecome, "+x.name, got, ok)
	}
}

func TestCredRunCases(t *testing.T) {
	for _, x := range []struct {
		name  string
		cred  impl.Cred
		owner int
		want  impl.Cred
	}{
		{"of another one", someone(3, 3, 1, 2), 5, someone(5, 3, 1, 2)},
		{"of the user 0", someone(3, 3), 0, someone(0, 3)},
		{"of who one is", someone(3, 4, 9), 3, someone(3, 4, 9)},
		{"of who one really is", someone(3, 4, 9), 4, someone(4, 4, 9)},
		{"by the user 0, of another one", someone(0, 0, 0), 9, someone(9, 0, 0)},
		{"by the user 0, of itself", someone(0, 4), 0, someone(0, 4)},
		{"by who is really the user 0", someone(3, 0), 5, someone(5, 0)},
	} {
		got, ok := impl.CredRun(x.cred, x.owner)
		wantIs(t, "CredRun "+x.name, got, ok, x.want)
	}
}

func TestCredSignalCases(t *testing.T) {
	for _, x := range []struct {
		name string
		a, b impl.Cred
		want bool
	}{
		{"just the users are the same", someone(3, 4), someone(3, 5), true},
		{"just the real ones are the same", someone(4, 3), someone(5, 3), true},
		{"the user is the other's real one", someone(3, 4), someone(5, 3), true},
		{"the real one is the other's user", someone(4, 3), someone(3, 5), true},
		{"all are the same", someone(3, 3), someone(3, 3), true},
		{"each is the other's other one", someone(3, 4), someone(4, 3), true},
		{"no one is the same", someone(3, 4), someone(5, 6), false},
		{"no one is the same, though groups are", someone(3, 4, 1, 2), someone(5, 6, 1, 2), false},
		{"a group is the other's user", someone(3, 3, 5), someone(5, 5, 3), false},
		{"the user 0, to another one", someone(0, 0), someone(5, 6), true},
		{"the user 0, really another one, to a third one", someone(0, 4), someone(5, 6), true},
		{"to the user 0, by another one", someone(5, 6), someone(0, 0), false},
		{"to the user 0, by one who is it really", someone(5, 0), someone(0, 4), true},
		{"to the user 0, by who is its real user", someone(4, 6), someone(0, 4), true},
		{"really the user 0, to another one", someone(5, 0), someone(6, 6), false},
		{"both are really the user 0", someone(5, 0), someone(6, 0), true},
	} {
		if got := impl.CredSignal(x.a, x.b); got != x.want {
			t.Errorf("CredSignal, %s: %v", x.name, got)
		}
	}
}

// The mode of a text is the same whatever the text is made of, and each mode has a text of its own.
func TestModeTextsAreUnlike(t *testing.T) {
	seen := map[string]int{}
	for mode := range 512 {
		text := impl.ModeText(mode)
		if other, ok := seen[text]; ok || text != modeSigns(mode) {
			t.Fatalf("ModeText of %03o is %q, which is that of %03o, or not %q", mode, text, other, modeSigns(mode))
		}
		seen[text] = mode
		for _, s := range []string{fmt.Sprint(mode), fmt.Sprintf("%o", mode), fmt.Sprintf("%09b", mode)} {
			if got, ok := impl.ModeRead(s); got != 0 || ok {
				t.Fatalf("ModeRead of %q is %d, %v", s, got, ok)
			}
		}
	}
}
