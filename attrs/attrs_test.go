package attrs_test

import (
	"fmt"
	"slices"
	"strings"
	"testing"

	"paternoster/api"
	"paternoster/attrs"
)

// expect fails unless two values are written alike.
func expect(t *testing.T, what string, got, want any) {
	t.Helper()
	if g, w := fmt.Sprint(got), fmt.Sprint(want); g != w {
		t.Errorf("%s: %s, expected %s", what, g, w)
	}
}

func all(l ...any) []any { return l }

// list returns attributes that are written as in a=1 b=2.
func list(s string) []api.Attr {
	var l []api.Attr
	for _, x := range strings.Fields(s) {
		name, value, _ := strings.Cut(x, "=")
		l = append(l, api.Attr{Name: name, Value: value})
	}
	return l
}

// edits returns edits that are written as in a=1 -b.
func edits(s string) []attrs.Edit {
	var l []attrs.Edit
	for _, x := range strings.Fields(s) {
		name, value, _ := strings.Cut(x, "=")
		if rest, drop := strings.CutPrefix(name, "-"); drop {
			l = append(l, attrs.Edit{Name: rest, Drop: true, Value: value})
		} else {
			l = append(l, attrs.Edit{Name: name, Value: value})
		}
	}
	return l
}

func badLists() []string {
	return []string{"b=1 a=1", "a=1 a=1", "A=1", "=1", "a=\x7f", "a=" + strings.Repeat("x", 65), strings.Repeat("x", 17) + "=1",
		"a b c d e f g h i", "a=\xff"}
}

func TestP13_1CheckAndCheckEdits(t *testing.T) {
	for _, s := range []string{"", "a=1", "0=1 a=1 b=", "a b c d e f g h", strings.Repeat("x", 16) + "=" + strings.Repeat("x", 64)} {
		expect(t, "Check", all(attrs.Check(list(s)), attrs.CheckEdits(edits(s))), all(0, 0))
	}
	for _, s := range badLists() {
		expect(t, "Check", attrs.Check(list(s)), api.ErrTree)
	}
	for s, want := range map[string]api.Errno{
		"a=1 -b": 0, "-a -b -c -d -e -f -g -h -i": 0, "-a=1": api.ErrTree, "b=1 a=1": api.ErrOrder, "a=1 a=1": api.ErrOrder, "a=1 -a": api.ErrOrder,
		"b=1 a=1 A=1": api.ErrTree, "A=1": api.ErrTree, "a=\x7f": api.ErrTree, "-": api.ErrTree, "b=1 a=1 -c=1": api.ErrTree,
	} {
		expect(t, "CheckEdits of "+s, attrs.CheckEdits(edits(s)), want)
	}
}

func TestP13_2Find(t *testing.T) {
	expect(t, "Find", all(attrs.Find(list("a=1 b=2"), "b")), all("2", 0))
	expect(t, "Find", all(attrs.Find(list("a=1"), "b")), all("", api.ErrNone))
	expect(t, "Find", all(attrs.Find(nil, "")), all("", api.ErrNone))
	expect(t, "Find", all(attrs.Find(list("b=1 a=2"), "a")), all("", api.ErrTree))
}

func TestP13_3Diff(t *testing.T) {
	for _, x := range [][3]string{
		{"a=1 b=2 d=4", "a=1 b=3 c=0", "b=3 c=0 -d"}, {"", "", ""}, {"a=1", "a=1", ""}, {"", "a= b=1", "a= b=1"}, {"a= b=1", "", "-a -b"},
		{"b=1", "a=1 c=1", "a=1 -b c=1"},
	} {
		got, e := attrs.Diff(list(x[0]), list(x[1]))
		expect(t, "Diff", all(got, e), all(edits(x[2]), 0))
	}
	for _, s := range badLists() {
		expect(t, "Diff", all(attrs.Diff(list(s), nil)), all(edits(""), api.ErrTree))
		expect(t, "Diff", all(attrs.Diff(nil, list(s))), all(edits(""), api.ErrTree))
	}
}

func TestP13_4Apply(t *testing.T) {
	eight := "a=0 b=0 c=0 d=0 e=0 f=0 g=0 h=0"
	for _, x := range []struct {
		l, edits, want string
		e              api.Errno
	}{
		{"a=1 b=2 d=4", "b=3 c=0 -d", "a=1 b=3 c=0", 0}, {"", "", "", 0}, {eight, "-a z=1", "b=0 c=0 d=0 e=0 f=0 g=0 h=0 z=1", 0},
		{"a=1", "-b", "", api.ErrNone}, {"", "b=1 a=1", "", api.ErrOrder}, {"b=1 a=1", "b=1 a=1", "", api.ErrTree},
		{eight, "i=1", "", api.ErrLimit}, {eight, "i=1 -j", "", api.ErrNone}, {eight, "h=1 i=1 -a", "", api.ErrOrder}, {"a=1", "a=\x7f", "", api.ErrTree},
	} {
		l := list(x.l)
		got, e := attrs.Apply(l, edits(x.edits))
		expect(t, "Apply of "+x.edits, all(got, e), all(list(x.want), x.e))
		expect(t, "the argument", l, list(x.l))
		if cap(got) != len(got) {
			t.Error("spare capacity")
		}
	}
}

func TestP13_5Compose(t *testing.T) {
	expect(t, "Compose", all(attrs.Compose(edits("a=1 -b"), edits("-a b=2"))), all(edits("-a b=2"), 0))
	expect(t, "Compose", all(attrs.Compose(edits("a=1 -c"), edits("b=2 c=3"))), all(edits("a=1 b=2 c=3"), 0))
	expect(t, "Compose", all(attrs.Compose(edits("b=1 a=1"), edits("A=2"))), all(edits(""), api.ErrOrder))
	expect(t, "Compose", all(attrs.Compose(nil, edits("A=2"))), all(edits(""), api.ErrTree))
}

// TestP13_6Consequences goes through all lists of three names with two values.
func TestP13_6Consequences(t *testing.T) {
	var lists [][]api.Attr
	for bits := range 27 {
		var l []api.Attr
		for i, rest := 0, bits; i < 3; i, rest = i+1, rest/3 {
			if rest%3 > 0 {
				l = append(l, api.Attr{Name: string(rune('a' + i)), Value: string(rune('0' + rest%3))})
			}
		}
		lists = append(lists, l)
	}
	for _, a := range lists {
		for _, b := range lists {
			ab, e := attrs.Diff(a, b)
			now, f := attrs.Apply(a, ab)
			if !slices.Equal(now, b) || e|f != 0 || (len(ab) == 0) != slices.Equal(a, b) || attrs.CheckEdits(ab) != api.OK {
				t.Errorf("%v to %v: %v", a, b, ab)
			}
			for _, c := range lists {
				bc, _ := attrs.Diff(b, c)
				ac, e := attrs.Compose(ab, bc)
				if attrs.CheckEdits(ac) != api.OK || e != api.OK {
					t.Errorf("Compose: %v", ac)
				}
				if got, e := attrs.Apply(a, ac); e == api.OK && !slices.Equal(got, c) || e != api.OK && e != api.ErrNone {
					t.Errorf("%v, %v, %v: %v, error %d", a, b, c, got, e)
				}
			}
		}
	}
	most, _ := attrs.Diff(list("a b c d e f g h"), list("i j k l m n o p"))
	expect(t, "the longest difference", len(most), 16)
}
