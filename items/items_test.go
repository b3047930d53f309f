package items_test

import (
	"fmt"
	"math"
	"strings"
	"testing"

	"paternoster/api"
	"paternoster/items"
)

// expect fails unless two values are written alike.
func expect(t *testing.T, what string, got, want any) {
	t.Helper()
	if g, w := fmt.Sprintf("%q", got), fmt.Sprintf("%q", want); g != w {
		t.Errorf("%s: %s, expected %s", what, g, w)
	}
}

func all(l ...any) []any { return l }

func item(key uint64, kind uint8, text string, marks ...string) api.Item {
	return api.Item{Key: key, Type: kind, Text: text, Marks: marks}
}

// good returns items that are valid for eight types.
func good() []api.Item {
	return []api.Item{
		item(7, 2, "hi there", "a", "b"), item(8, 0, ""), item(math.MaxUint64, 7, strings.Repeat("~", 64), strings.Fields("a b c d e f g h")...),
		item(1, 1, "  x ", "a", "a"), item(2, 0, " "), item(3, 0, "-", strings.Repeat("z", 16)),
	}
}

func TestP23_1Check(t *testing.T) {
	x := item(7, 2, "hi", "a", "b")
	expect(t, "Check", all(items.Check(x, 3), items.Check(x, 2), items.Check(api.Item{}, 8), items.Check(x, -1), items.Check(x, math.MaxInt), items.Check(item(1, 0, ""), 0)),
		all(api.OK, api.ErrItem, api.ErrItem, api.ErrItem, api.OK, api.ErrItem))
	for _, x := range good() {
		expect(t, "Check", items.Check(x, 8), api.OK)
	}
	for _, x := range []api.Item{
		item(0, 0, ""), item(1, 8, ""), item(1, 0, "\n"), item(1, 0, "\x7f"), item(1, 0, "é"), item(1, 0, strings.Repeat("x", 65)), item(1, 0, "", ""), item(1, 0, "", "a", "A"),
		item(1, 0, "", strings.Repeat("z", 17)), item(1, 0, "", strings.Fields("a b c d e f g h i")...), item(1, 0, "", "a,b"),
	} {
		expect(t, "Check", items.Check(x, 8), api.ErrItem)
		expect(t, "Text", all(items.Text([]api.Item{item(1, 1, ""), x})), all("", api.ErrItem))
	}
}

func TestP23_2SameFindTwice(t *testing.T) {
	l := append(good(), api.Item{}, item(7, 2, "hi there", "a"), item(7, 2, "hi", "a", "b"), item(7, 3, "hi there", "a", "b"), item(7, 2, "hi there", "b", "a"))
	for i, a := range l {
		for k, b := range l {
			expect(t, "Same", items.Same(a, b), i == k)
		}
	}
	expect(t, "Same", items.Same(item(1, 0, ""), api.Item{Key: 1, Marks: []string{}}), true)
	keys := []api.Item{item(3, 0, ""), item(4, 0, ""), item(3, 0, ""), item(4, 0, ""), {}}
	expect(t, "Twice", all(items.Twice(keys)), all(2, true))
	expect(t, "Twice", all(items.Twice(keys[:2])), all(0, false))
	expect(t, "Find", all(items.Find(keys, 4)), all(1, true))
	expect(t, "Find", all(items.Find(keys, 0)), all(4, true))
	expect(t, "Find", all(items.Find(keys, 9)), all(0, false))
}

func TestP23_3Copy(t *testing.T) {
	l := append(good(), api.Item{Text: "\n", Marks: []string{"A"}})
	c := items.Copy(l)
	expect(t, "Copy", c, l)
	c[0].Marks[0], c[1].Key = "new", 99
	expect(t, "Copy", all(l[0].Marks[0], l[1].Key, items.Copy(nil)), all("a", 8, []api.Item{}))
}

func TestP23_4Text(t *testing.T) {
	expect(t, "Text", all(items.Text(good()[:2])), all("7 2 a,b hi there\n8 0 - \n", api.OK))
	expect(t, "Text", all(items.Text(nil)), all("", api.OK))
	long := make([]api.Item, api.MaxItems+1)
	expect(t, "Text", all(items.Text(long)), all("", api.ErrLimit))
	for i := range long {
		long[i] = item(5, 0, "")
	}
	s, e := items.Text(long[:api.MaxItems])
	expect(t, "Text", all(len(s), e), all(api.MaxItems*7, api.OK))
}

func TestP23_5Parse(t *testing.T) {
	l, line, e := items.Parse("7 2 a,b hi there\n8 0 - \n")
	expect(t, "Parse", all(l, line, e), all(good()[:2], 0, api.OK))
	full := strings.Repeat("5 0 - \n", api.MaxItems)
	for _, x := range []struct {
		s    string
		line int
		e    api.Errno
	}{
		{"8 0 -\n", 1, api.ErrForm}, {"08 0 - x\n", 1, api.ErrForm}, {"8 0 a, x\n", 1, api.ErrForm}, {"8 0 - x", 1, api.ErrForm}, {"\n", 1, api.ErrForm},
		{"8 00 - x\n", 1, api.ErrForm}, {"8 8 - x\n", 1, api.ErrForm}, {"0 0 - x\n", 1, api.ErrForm}, {"8  0 - x\n", 1, api.ErrForm}, {" 8 0 - x\n", 1, api.ErrForm},
		{"8 0  x\n", 1, api.ErrForm}, {"8 0 ,a x\n", 1, api.ErrForm}, {"8 0 A x\n", 1, api.ErrForm}, {"8 0 a,- x\n", 1, api.ErrForm}, {"8 0 a,b,c,d,e,f,g,h,i x\n", 1, api.ErrForm},
		{"18446744073709551616 0 - x\n", 1, api.ErrForm}, {"-8 0 - x\n", 1, api.ErrForm}, {"8 256 - x\n", 1, api.ErrForm}, {"8 0 - x\r\n", 1, api.ErrForm}, {"8 0 - \x7f\n", 1, api.ErrForm},
		{"8 0 - " + strings.Repeat("x", 65) + "\n", 1, api.ErrForm}, {"8 0 - \n8 0 - \nx\n", 3, api.ErrForm}, {"8 0 - \n\n", 2, api.ErrForm},
		{full + "5 0 - \n", api.MaxItems + 1, api.ErrLimit}, {full + "5 0 - ", api.MaxItems + 1, api.ErrForm}, {full + "x\n5 0 - \n", api.MaxItems + 1, api.ErrForm},
		{strings.Repeat("\n", api.MaxText), 1, api.ErrForm}, {strings.Repeat("\n", api.MaxText+1), 0, api.ErrLimit},
	} {
		expect(t, fmt.Sprintf("Parse of %.30q", x.s), all(items.Parse(x.s)), all([]api.Item{}, x.line, x.e))
	}
	l, line, e = items.Parse(full)
	expect(t, "Parse", all(len(l), line, e), all(api.MaxItems, 0, api.OK))
}

func TestP23_6Consequences(t *testing.T) {
	for i, x := range good() {
		text, _ := items.Text([]api.Item{x})
		l, _, e := items.Parse(text)
		if e != api.OK || len(l) != 1 || !items.Same(l[0], x) {
			t.Errorf("Parse of %q: %v", text, l)
		}
		for k, y := range good() {
			other, _ := items.Text([]api.Item{y})
			expect(t, "lines", text == other, i == k)
		}
		valid := false
		for types := -1; types <= 256; types++ {
			now := items.Check(x, types) == api.OK
			if valid && !now || types < 1 && now {
				t.Errorf("%v is not valid for %d types", x, types)
			}
			valid = now
		}
	}
	text, _ := items.Text(good())
	l, _, _ := items.Parse(text)
	again, _ := items.Text(l)
	expect(t, "Text of Parse", again, text)
}
