package tests

import (
	"fmt"
	"math"
	"slices"
	"testing"

	"loop.example/quarterdeck/impl"
)

// namedCred is who does something, with a name for what a test reports.
type namedCred struct {
	name string
	cred impl.Cred
}

// someone is who does something as a user, with a real one and groups.
func someone(user, realUser int, groups ...int) impl.Cred {
	return impl.Cred{User: user, Real: realUser, Groups: groups}
}

// usersToTry has each user, and numbers that are none, among them those that would be users if they were cut to fewer bits.
func usersToTry() []int {
	return append([]int{0, 1, 2, 3, 4, 5, 6, 7, 8, 9}, noUsers()...)
}

// noUsers are numbers that are neither a user nor a group.
func noUsers() []int {
	return []int{math.MinInt, math.MinInt + 1, math.MinInt32, -256, -1, 10, 11, 99, 256, 1 << 32, 1<<32 + 2, math.MaxInt - 1, math.MaxInt}
}

// noModes are numbers that are no mode.
func noModes() []int {
	return []int{math.MinInt, math.MinInt + 1, math.MinInt + 511, math.MinInt32, -512, -511, -7, -1, 512, 513, 1005, 1023, 4095, 1 << 32, 1<<32 + 511, math.MaxInt - 1, math.MaxInt}
}

// noWhats are numbers that are nothing one may do.
func noWhats() []int {
	return []int{math.MinInt, math.MinInt + 1, math.MinInt + 4, -8, -7, -4, -1, 0, 8, 9, 12, 15, 256, 1<<32 + 4, math.MaxInt - 1, math.MaxInt}
}

// groupLists are all lists of groups that are valid.
func groupLists() [][]int {
	list := [][]int{nil, {}}
	for a := range 10 {
		list = append(list, []int{a})
		for b := range a {
			list = append(list, []int{b, a})
			for c := range b {
				list = append(list, []int{c, b, a})
			}
		}
	}
	return list
}

// allUsers has each user with each real one, without groups and with some.
func allUsers() []namedCred {
	list := []namedCred{}
	lists := groupLists()
	for user := range 10 {
		for really := range 10 {
			for _, groups := range [][]int{nil, lists[(7*user+really)%len(lists)], lists[(50+31*user+11*really)%len(lists)]} {
				list = append(list, namedCred{fmt.Sprintf("user %d, really %d, groups %v", user, really, groups), someone(user, really, groups...)})
			}
		}
	}
	return list
}

// validCreds has all lists of groups, and all users with all real ones.
func validCreds() []namedCred {
	list := allUsers()
	for k, groups := range groupLists() {
		for _, c := range []impl.Cred{someone(k%10, k/10%10, groups...), someone(k%10, k%10, groups...), someone(0, k%10, groups...)} {
			list = append(list, namedCred{fmt.Sprintf("groups %v, user %d, really %d", groups, c.User, c.Real), c})
		}
	}
	return list
}

// fewCreds has someone of each sort, for tests that try much with each one.
func fewCreds() []namedCred {
	return []namedCred{
		{"the user 0", someone(0, 0)},
		{"the user 0, really another one", someone(0, 4, 1, 2)},
		{"really the user 0", someone(4, 0)},
		{"really the user 0, in the group 0", someone(2, 0, 0)},
		{"nobody's group", someone(2, 2)},
		{"one group", someone(2, 2, 5)},
		{"two groups", someone(2, 7, 0, 5)},
		{"three groups", someone(3, 2, 2, 5, 9)},
		{"the least groups", someone(1, 1, 0, 1, 2)},
		{"the greatest of all", someone(9, 9, 7, 8, 9)},
	}
}

// invalidCreds has someone who is not valid for just one cause.
func invalidCreds() []namedCred {
	list := []namedCred{
		{"four groups", someone(2, 2, 1, 2, 3, 4)},
		{"four groups for the user 0", someone(0, 0, 1, 2, 3, 4)},
		{"ten groups", someone(2, 2, 0, 1, 2, 3, 4, 5, 6, 7, 8, 9)},
		{"four groups, one twice", someone(2, 2, 1, 2, 3, 3)},
		{"two groups, descending", someone(2, 2, 5, 3)},
		{"the first two of three descending", someone(2, 2, 5, 3, 9)},
		{"the last two of three descending", someone(2, 2, 3, 9, 5)},
		{"three groups, descending", someone(2, 2, 9, 5, 3)},
		{"one group twice", someone(2, 2, 5, 5)},
		{"the group 0 twice", someone(2, 2, 0, 0)},
		{"the first two of three alike", someone(2, 2, 5, 5, 9)},
		{"the last two of three alike", someone(2, 2, 3, 5, 5)},
		{"the first and the last of three alike", someone(2, 2, 5, 7, 5)},
		{"groups of the user 0, descending", someone(0, 0, 5, 3)},
	}
	for _, n := range noUsers() {
		list = append(list,
			namedCred{fmt.Sprintf("user %d", n), someone(n, 2, 5)},
			namedCred{fmt.Sprintf("really %d", n), someone(2, n, 5)},
			namedCred{fmt.Sprintf("the user 0, really %d", n), someone(0, n)},
			namedCred{fmt.Sprintf("user %d, really, too", n), someone(n, n)},
			namedCred{fmt.Sprintf("group %d", n), someone(2, 2, n)},
			namedCred{fmt.Sprintf("group %d, for the user 0", n), someone(0, 0, n)})
		if n < 0 {
			list = append(list, namedCred{fmt.Sprintf("group %d ahead of two", n), someone(2, 2, n, 0, 5)})
		} else {
			list = append(list, namedCred{fmt.Sprintf("group %d behind two", n), someone(2, 2, 5, 9, n)})
		}
	}
	return list
}

// allCreds has valid ones and others.
func allCreds() []namedCred {
	return append(validCreds(), invalidCreds()...)
}

// credIsValid tells, without the program, whether someone is valid.
func credIsValid(c impl.Cred) bool {
	for _, n := range append([]int{c.User, c.Real}, c.Groups...) {
		if n < 0 || n > 9 {
			return false
		}
	}
	ascending := slices.Clone(c.Groups)
	slices.Sort(ascending)
	return len(slices.Compact(ascending)) == len(c.Groups) && slices.IsSorted(c.Groups) && len(c.Groups) <= 3
}

// mayDo tells, without the program, whether someone valid may do all of what, by the text of the digits that ls writes.
func mayDo(c impl.Cred, owner, group, mode, what int) bool {
	digits := [8]string{"", "x", "w", "wx", "r", "rx", "rw", "rwx"}
	may := digits[mode%8]
	if slices.Contains(c.Groups, group) {
		may = digits[mode/8%8]
	}
	if c.User == owner {
		may = digits[mode/64]
	}
	if c.User == 0 {
		may = "rw"
		if mode/64%2+mode/8%2+mode%2 > 0 {
			may = "rwx"
		}
	}
	for _, sign := range digits[what] {
		if !slices.Contains([]rune(may), sign) {
			return false
		}
	}
	return true
}

// modeSigns is, without the program, the text of a mode.
func modeSigns(mode int) string {
	digits := [8]string{"---", "--x", "-w-", "-wx", "r--", "r-x", "rw-", "rwx"}
	return digits[mode/64] + digits[mode/8%8] + digits[mode%8]
}

func sameCred(a, b impl.Cred) bool {
	return a.User == b.User && a.Real == b.Real && slices.Equal(a.Groups, b.Groups)
}

func wantCred(t *testing.T, what string, got, want impl.Cred) {
	t.Helper()
	if !sameCred(got, want) {
		t.Fatalf("%s: got %v, want %v", what, got, want)
	}
}

// wantIs checks a call that returns who someone is.
func wantIs(t *testing.T, what string, got impl.Cred, ok bool, want impl.Cred) {
	t.Helper()
	if !ok {
		t.Fatalf("%s failed, with %v", what, got)
	}
	wantCred(t, what, got, want)
}

// wantNobody checks a call that fails with nothing.
func wantNobody(t *testing.T, what string, got impl.Cred, ok bool) {
	t.Helper()
	if ok || !sameCred(got, impl.Cred{}) {
		t.Fatalf("%s: got %v, %v, want nothing and false", what, got, ok)
	}
}
