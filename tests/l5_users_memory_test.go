package tests

import (
	"fmt"
	"slices"
	"testing"

	"loop.example/quarterdeck/impl"
)

// credCall is a call of a function of chapter 5 that has someone as an argument, told by a text, with who it returns, if anyone.
type credCall struct {
	name string
	do   func(c impl.Cred) impl.Cred
}

// credCalls calls each function that has someone as an argument, with arguments of which some are valid and some not.
func credCalls() []credCall {
	list := []credCall{
		{"CredOk", func(c impl.Cred) impl.Cred { impl.CredOk(c); return impl.Cred{} }},
		{"CredSignal of oneself", func(c impl.Cred) impl.Cred { impl.CredSignal(c, c); return impl.Cred{} }},
		{"CredSignal of others", func(c impl.Cred) impl.Cred {
			impl.CredSignal(c, someone(3, 4, 5))
			impl.CredSignal(someone(3, 4, 5), c)
			return impl.Cred{}
		}},
	}
	for _, n := range usersToTry() {
		list = append(list,
			credCall{fmt.Sprintf("CredBecome(%d)", n), func(c impl.Cred) impl.Cred { got, _ := impl.CredBecome(c, n); return got }},
			credCall{fmt.Sprintf("CredRun(%d)", n), func(c impl.Cred) impl.Cred { got, _ := impl.CredRun(c, n); return got }},
			credCall{fmt.Sprintf("ModeMay(%d, %d, ...)", n, n), func(c impl.Cred) impl.Cred {
				impl.ModeMay(c, n, 5, 493, 4)
				impl.ModeMay(c, 2, n, 493, 4)
				return impl.Cred{}
			}})
	}
	return list
}

// modeCalls calls the functions of modes with numbers that are valid and others.
func modeCalls(c impl.Cred) {
	modes := append(noModes(), 0, 1, 73, 493, 511)
	for _, mode := range modes {
		impl.ModeText(mode)
		for _, what := range append(noWhats(), 1, 2, 3, 4, 5, 6, 7) {
			for _, n := range append(noUsers(), 0, 2, 9) {
				impl.ModeMay(c, n, 5, mode, what)
				impl.ModeMay(c, 2, n, mode, what)
			}
		}
	}
}

// becoming is CredBecome of who one is, and CredRun of what one owns: both succeed for who is valid.
func becoming() []credCall {
	return []credCall{
		{"CredBecome of one's user", func(c impl.Cred) impl.Cred { got, _ := impl.CredBecome(c, c.User); return got }},
		{"CredBecome of one's real user", func(c impl.Cred) impl.Cred { got, _ := impl.CredBecome(c, c.Real); return got }},
		{"CredRun of one's own", func(c impl.Cred) impl.Cred { got, _ := impl.CredRun(c, c.User); return got }},
	}
}

// roomyCred is the same one with marks in the capacity behind its groups, which a call must leave alone, too.
func roomyCred(c impl.Cred) impl.Cred {
	c.Groups = append(slices.Clone(c.Groups), 71, 72, 73)[:len(c.Groups)]
	return c
}

// wholeCred has all groups up to the capacity.
func wholeCred(c impl.Cred) impl.Cred {
	c.Groups = c.Groups[:cap(c.Groups)]
	return c
}

func cloneCred(c impl.Cred) impl.Cred {
	c.Groups = slices.Clone(c.Groups)
	return c
}

// scribbleCred overwrites all groups, up to their capacity.
func scribbleCred(c impl.Cred) {
	groups := c.Groups[:cap(c.Groups)]
	for k := range groups {
		groups[k] = -7
	}
}

func TestUsersCallsDoNotPanic(t *testing.T) {
	try := func(name string, do func()) {
		defer func() {
			if r := recover(); r != nil {
				t.Errorf("%s panicked: %v", name, r)
			}
		}()
		do()
	}
	for _, x := range allCreds() {
		for _, c := range append(credCalls(), becoming()...) {
			try(c.name+" of "+x.name, func() { c.do(x.cred) })
		}
	}
	for _, x := range append(fewCreds(), invalidCreds()...) {
		try("ModeMay of "+x.name, func() { modeCalls(x.cred) })
	}
	for _, s := range append(textsToTry(), "rwxrwxrwx", "---------", "éééé-") {
		try("ModeRead", func() { impl.ModeRead(s) })
	}
}

func TestUsersArgumentsAreNotChanged(t *testing.T) {
	for _, x := range allCreds() {
		for _, c := range append(credCalls(), becoming()...) {
			who := roomyCred(x.cred)
			was := cloneCred(wholeCred(who))
			c.do(who)
			wantCred(t, c.name+" of "+x.name+" changed its argument", wholeCred(who), was)
		}
	}
}

func TestUsersResultsShareNothingWithArguments(t *testing.T) {
	for _, x := range allCreds() {
		for _, c := range append(credCalls(), becoming()...) {
			who := roomyCred(x.cred)
			was := cloneCred(wholeCred(who))
			scribbleCred(c.do(who))
			wantCred(t, c.name+" of "+x.name+": the argument is in the result", wholeCred(who), was)
			got := c.do(who)
			told := cloneCred(got)
			scribbleCred(who)
			wantCred(t, c.name+" of "+x.name+": the result is in the argument", got, told)
			if !listsApart(got.Groups, who.Groups) {
				t.Fatalf("%s of %s: the groups of the result and of the argument share memory", c.name, x.name)
			}
		}
	}
}

func TestUsersResultsShareNothingWithEachOther(t *testing.T) {
	for _, x := range allCreds() {
		for _, c := range append(credCalls(), becoming()...) {
			one, two := c.do(x.cred), c.do(x.cred)
			told := cloneCred(two)
			wantCred(t, c.name+" of "+x.name+" again", one, two)
			scribbleCred(one)
			wantCred(t, c.name+" of "+x.name+": a result is in another one", two, told)
		}
	}
}

// Groups that are empty and groups that are nil are the same.
func TestUsersWithoutGroups(t *testing.T) {
	for user := range 10 {
		for really := range 10 {
			none, empty := impl.Cred{User: user, Real: really}, impl.Cred{User: user, Real: really, Groups: []int{}}
			if !impl.CredOk(none) || !impl.CredOk(empty) || !impl.CredSignal(none, empty) || !impl.CredSignal(empty, none) {
				t.Fatalf("user %d, really %d: empty groups and none are told apart", user, really)
			}
			for n := range 10 {
				one, oneOk := impl.CredBecome(none, n)
				two, twoOk := impl.CredBecome(empty, n)
				if oneOk != twoOk || !sameCred(one, two) || impl.ModeMay(none, n, n, 0o421, 2) != impl.ModeMay(empty, n, n, 0o421, 2) {
					t.Fatalf("user %d, really %d, %d: empty groups and none are told apart", user, really, n)
				}
			}
		}
	}
}
