package lists_test

import (
	"fmt"
	"math"
	"strings"
	"testing"

	"paternoster/api"
	"paternoster/lists"
	"paternoster/templates"
)

// expect fails unless two values are written alike.
func expect(t *testing.T, what string, got, want any) {
	t.Helper()
	if g, w := fmt.Sprint(got), fmt.Sprint(want); g != w {
		t.Errorf("%s: %s, expected %s", what, g, w)
	}
}

func all(l ...any) []any { return l }

// rules returns two kinds, with Base 10 and 20, and an Each in the third one.
func rules() lists.Rules {
	part := api.Part{Kind: api.Element, Tag: "a"}
	marks := api.Part{Kind: api.Element, Tag: "m", Parts: []api.Part{{Kind: api.Each, Tag: "i"}}}
	return lists.Rules{Cap: 5, Kinds: []api.Kind{{Template: part, Base: 10}, {Template: part, Base: 20, Sticky: true, Pool: -9}, {Template: marks, Base: api.MaxHeight}}}
}

func item(key uint64) api.Item { return api.Item{Key: key, Type: uint8(key+1) % 2} }

func huge(key uint64) api.Item { return api.Item{Key: key, Type: 2} }

func marked(key uint64, marks ...string) api.Item { return api.Item{Key: key, Type: 2, Marks: marks} }

func items(keys ...uint64) []api.Item {
	var l []api.Item
	for _, key := range keys {
		l = append(l, item(key))
	}
	return l
}

// list returns the list of fresh entries with keys.
func list(t *testing.T, keys ...uint64) lists.List {
	t.Helper()
	l, e := lists.Insert(rules(), lists.List{}, 0, items(keys...))
	if e != api.OK {
		t.Fatal(e)
	}
	return l
}

// written writes a list down.
func written(l lists.List) string {
	var out []string
	for _, x := range l.Entries {
		known := ""
		if x.Known {
			known = "!"
		}
		out = append(out, fmt.Sprint(x.Item.Key, ":", x.Size, known))
	}
	return strings.Join(out, " ")
}

// is fails unless a result is a list that is valid, and written so.
func is(t *testing.T, what string, l lists.List, e api.Errno, want string) {
	t.Helper()
	if s := written(l); strings.ReplaceAll(s, " ", "") != strings.ReplaceAll(want, " ", "") || e != api.OK || lists.Check(rules(), l) != api.OK {
		t.Errorf("%s: %s (error %d), expected %s", what, s, e, want)
	}
	if cap(l.Entries) != len(l.Entries) {
		t.Errorf("%s: spare capacity", what)
	}
}

// refused fails unless a result is this error, and no list.
func refused(t *testing.T, what string, l lists.List, e, want api.Errno) {
	t.Helper()
	expect(t, what, all(e, len(l.Entries)), all(want, 0))
}

func many(n int) []api.Item {
	var l []api.Item
	for i := range n {
		l = append(l, item(uint64(1000+i)))
	}
	return l
}

// bad is a list that is not valid, and its error.
type bad struct {
	c lists.Rules
	l lists.List
	e api.Errno
}

func badLists() []bad {
	entries := func(l ...lists.Entry) lists.List { return lists.List{Entries: l} }
	ok := lists.Entry{Item: item(1), Size: 10}
	full := lists.Entry{Item: huge(7), Size: api.MaxHeight}
	big := lists.Entry{Item: huge(8), Size: api.MaxHeight, Known: true}
	return []bad{
		{lists.Rules{}, entries(ok), api.ErrConfig}, {rules(), lists.List{Entries: make([]lists.Entry, api.MaxItems+1)}, api.ErrLimit},
		{rules(), entries(ok, lists.Entry{Item: api.Item{Key: 2, Type: 3}, Size: 10}), api.ErrItem}, {rules(), entries(lists.Entry{Size: 10}), api.ErrItem},
		{rules(), entries(ok, ok), api.ErrTwice}, {rules(), entries(lists.Entry{Item: marked(3, "a", "a"), Size: 1}), api.ErrTree}, {rules(), entries(lists.Entry{Item: marked(3, "a", "b", "c"), Size: 1}), api.ErrTree},
		{rules(), entries(lists.Entry{Item: item(1), Size: 11}), api.ErrHeight}, {rules(), entries(lists.Entry{Item: item(1), Size: 0, Known: true}), api.ErrHeight},
		{rules(), entries(lists.Entry{Item: item(1), Size: api.MaxHeight + 1, Known: true}), api.ErrHeight}, {rules(), entries(lists.Entry{Item: item(1), Size: -5, Known: true}, lists.Entry{}), api.ErrHeight},
		{rules(), entries(full, big, ok), api.ErrOverflow}, {rules(), entries(full, big, ok, ok), api.ErrTwice},
		{rules(), entries(lists.Entry{Item: marked(1, "b", "b"), Size: 0}, ok), api.ErrTree},
	}
}

func TestP24_1ValidCheck(t *testing.T) {
	expect(t, "Valid", lists.Valid(rules()), api.OK)
	for _, change := range []func(c *lists.Rules){
		func(c *lists.Rules) { c.Kinds = nil }, func(c *lists.Rules) { c.Kinds = make([]api.Kind, 9) }, func(c *lists.Rules) { c.Cap = 0 }, func(c *lists.Rules) { c.Cap = 65 },
		func(c *lists.Rules) { c.Kinds[1].Base = 0 }, func(c *lists.Rules) { c.Kinds[1].Base = api.MaxHeight + 1 }, func(c *lists.Rules) { c.Kinds[2].Template.Tag = "" },
	} {
		c := rules()
		change(&c)
		expect(t, "Valid", all(lists.Valid(c), lists.Check(c, lists.List{})), all(api.ErrConfig, api.ErrConfig))
	}
	part := rules().Kinds[0]
	for _, x := range []lists.Rules{{Kinds: []api.Kind{part}, Cap: 1}, {Kinds: []api.Kind{part, part, part, part, part, part, part, part}, Cap: api.MaxNodes}} {
		expect(t, "Valid at the limits", lists.Valid(x), api.OK)
	}
	for _, x := range badLists() {
		expect(t, "Check", lists.Check(x.c, x.l), x.e)
		for i, f := range []func() (lists.List, api.Errno){
			func() (lists.List, api.Errno) { return lists.Insert(x.c, x.l, -1, nil) }, func() (lists.List, api.Errno) { return lists.Remove(x.c, x.l, -1, 0) },
			func() (lists.List, api.Errno) { return lists.Move(x.c, x.l, -1, 0, 0) }, func() (lists.List, api.Errno) { return lists.Change(x.c, x.l, -1, nil) },
			func() (lists.List, api.Errno) { return lists.Reset(x.c, x.l, make([]api.Item, 2000)) }, func() (lists.List, api.Errno) { return lists.Set(x.c, x.l, 99, 0) },
		} {
			l, e := f()
			refused(t, fmt.Sprint("operation ", i), l, e, x.e)
		}
		expect(t, "Tree", all(lists.Tree(x.c, x.l, -1)), all(api.Node{}, x.e))
	}
	l, e := lists.Insert(rules(), lists.List{}, 0, many(api.MaxItems))
	expect(t, "Check", all(e, lists.Check(rules(), l)), all(0, 0))
}

func TestP24_2Insert(t *testing.T) {
	l := list(t, 1, 2, 3)
	is(t, "Insert", l, 0, "1:10 2:20 3:10")
	m, e := lists.Insert(rules(), l, 1, items(8, 9))
	is(t, "Insert", m, e, "1:10 8:20 9:10 2:20 3:10")
	m, e = lists.Insert(rules(), l, 3, nil)
	is(t, "Insert", m, e, "1:10 2:20 3:10")
	two := []api.Item{huge(5), huge(6)}
	for _, x := range []struct {
		at int
		x  []api.Item
		e  api.Errno
	}{
		{4, nil, api.ErrRange}, {-1, many(2000), api.ErrRange}, {0, items(2), api.ErrTwice}, {0, items(5, 5), api.ErrTwice}, {0, many(api.MaxItems), api.ErrLimit}, {0, make([]api.Item, api.MaxItems), api.ErrLimit},
		{0, items(0), api.ErrItem}, {0, append(items(5), api.Item{Key: 6, Type: 3}), api.ErrItem}, {0, []api.Item{{Key: 2, Type: 3}}, api.ErrItem}, {0, []api.Item{marked(2, "a", "a")}, api.ErrTwice},
		{0, []api.Item{marked(4, "a", "a"), {}}, api.ErrTree}, {0, []api.Item{marked(4, "a", "b", "c")}, api.ErrTree}, {0, two, api.ErrOverflow}, {0, append(two, huge(5)), api.ErrTwice}, {math.MaxInt, nil, api.ErrRange},
	} {
		m, e := lists.Insert(rules(), l, x.at, x.x)
		refused(t, "Insert", m, e, x.e)
	}
	m, e = lists.Insert(rules(), lists.List{}, 0, two)
	is(t, "Insert to the greatest total", m, e, "5:2305843009213693952 6:2305843009213693952")
	m, e = lists.Insert(rules(), l, 0, many(api.MaxItems-3))
	expect(t, "Insert to the limit", all(len(m.Entries), e), all(api.MaxItems, 0))
}

func TestP24_3RemoveMove(t *testing.T) {
	l := list(t, 1, 2, 3)
	m, e := lists.Remove(rules(), l, 1, 1)
	is(t, "Remove", m, e, "1:10 3:10")
	m, e = lists.Remove(rules(), l, 0, 3)
	is(t, "Remove", m, e, "")
	m, e = lists.Move(rules(), l, 0, 2, 1)
	is(t, "Move", m, e, "3:10 1:10 2:20")
	m, e = lists.Move(rules(), l, 1, 1, 0)
	is(t, "Move", m, e, "2:20 1:10 3:10")
	m, e = lists.Move(rules(), l, 3, 0, 3)
	is(t, "Move nothing", m, e, "1:10 2:20 3:10")
	for _, x := range [][2]int{{2, 2}, {-1, 0}, {0, -1}, {4, 0}, {1, math.MaxInt}, {math.MaxInt, math.MaxInt}} {
		m, e := lists.Remove(rules(), l, x[0], x[1])
		refused(t, "Remove", m, e, api.ErrRange)
		m, e = lists.Move(rules(), l, x[0], x[1], 0)
		refused(t, "Move", m, e, api.ErrRange)
	}
	for _, to := range []int{-1, 2, math.MaxInt} {
		m, e := lists.Move(rules(), l, 0, 2, to)
		refused(t, "Move", m, e, api.ErrRange)
	}
	m, e = lists.Move(rules(), l, 0, 0, 4)
	refused(t, "Move", m, e, api.ErrRange)
}

func TestP24_4ChangeReset(t *testing.T) {
	l := list(t, 1, 2, 3)
	l, _ = lists.Set(rules(), l, 2, 25)
	m, e := lists.Change(rules(), l, 1, items(2))
	is(t, "Change", m, e, "1:10 2:20 3:10")
	other := item(2)
	other.Type, other.Text = 0, "new"
	m, e = lists.Change(rules(), l, 1, []api.Item{other, item(3)})
	is(t, "Change", m, e, "1:10 2:10 3:10")
	expect(t, "Change", m.Entries[1].Item.Text, "new")
	m, e = lists.Change(rules(), l, 3, nil)
	is(t, "Change", m, e, "1:10 2:25! 3:10")
	for _, x := range []struct {
		at int
		x  []api.Item
		e  api.Errno
	}{
		{0, items(2), api.ErrKey}, {3, items(3), api.ErrRange}, {-1, nil, api.ErrRange}, {4, nil, api.ErrRange}, {2, items(3, 4), api.ErrRange}, {0, items(0), api.ErrItem},
		{0, []api.Item{marked(9, "a", "a")}, api.ErrKey}, {0, []api.Item{marked(1, "a", "a")}, api.ErrTree}, {0, []api.Item{huge(1), huge(2)}, api.ErrOverflow}, {0, []api.Item{huge(1), huge(2), huge(2)}, api.ErrKey},
	} {
		m, e := lists.Change(rules(), l, x.at, x.x)
		refused(t, "Change", m, e, x.e)
	}
	m, e = lists.Reset(rules(), l, items(3, 1))
	is(t, "Reset", m, e, "3:10 1:10")
	m, e = lists.Reset(rules(), l, many(api.MaxItems))
	expect(t, "Reset to the limit", all(len(m.Entries), e), all(api.MaxItems, 0))
	m, e = lists.Reset(rules(), l, nil)
	is(t, "Reset", m, e, "")
	for _, x := range []struct {
		x []api.Item
		e api.Errno
	}{
		{make([]api.Item, api.MaxItems+1), api.ErrLimit}, {items(1, 0), api.ErrItem}, {items(1, 1), api.ErrTwice}, {[]api.Item{marked(1, "a", "a")}, api.ErrTree}, {[]api.Item{huge(1), huge(2), item(3)}, api.ErrOverflow},
	} {
		m, e := lists.Reset(rules(), l, x.x)
		refused(t, "Reset", m, e, x.e)
	}
}

func TestP24_5Set(t *testing.T) {
	l := list(t, 1, 2, 3)
	m, e := lists.Set(rules(), l, 2, 25)
	is(t, "Set", m, e, "1:10 2:25! 3:10")
	m, e = lists.Set(rules(), m, 2, 20)
	is(t, "Set", m, e, "1:10 2:20! 3:10")
	for _, x := range []struct {
		key  uint64
		size int64
		e    api.Errno
	}{{9, 0, api.ErrNone}, {0, 1, api.ErrNone}, {1, 0, api.ErrHeight}, {1, api.MaxHeight + 1, api.ErrHeight}, {1, -1, api.ErrHeight}} {
		m, e := lists.Set(rules(), l, x.key, x.size)
		refused(t, "Set", m, e, x.e)
	}
	m, e = lists.Set(rules(), l, 1, 1)
	is(t, "Set", m, e, "1:1! 2:20 3:10")
	m, e = lists.Set(rules(), l, 1, api.MaxHeight)
	is(t, "Set", m, e, "1:2305843009213693952! 2:20 3:10")
	m, e = lists.Set(rules(), m, 2, api.MaxHeight)
	refused(t, "Set", m, e, api.ErrOverflow)
}

func TestP24_6Tree(t *testing.T) {
	l, _ := lists.Insert(rules(), list(t, 1, 2), 2, []api.Item{marked(9, "u", "v")})
	for i, x := range l.Entries {
		want, _ := templates.Render(rules().Kinds[x.Item.Type].Template, x.Item, 5)
		expect(t, "Tree", all(lists.Tree(rules(), l, i)), all(want, 0))
	}
	for _, i := range []int{-1, 3, math.MaxInt} {
		expect(t, "Tree", all(lists.Tree(rules(), l, i)), all(api.Node{}, api.ErrRange))
	}
}

func TestP24_7FindTotalSame(t *testing.T) {
	entries := func(sizes ...int64) lists.List {
		var l lists.List
		for _, size := range sizes {
			l.Entries = append(l.Entries, lists.Entry{Size: size})
		}
		return l
	}
	for _, x := range []struct {
		l    lists.List
		want int64
	}{
		{entries(), 0}, {entries(1, -5, 2), 3}, {entries(api.MaxTotal), api.MaxTotal}, {entries(api.MaxTotal, 1), api.MaxTotal + 1}, {entries(math.MaxInt64, math.MaxInt64, -1), api.MaxTotal + 1},
		{entries(math.MinInt64, math.MinInt64), 0}, {entries(api.MaxTotal, -3), api.MaxTotal},
	} {
		expect(t, "Total", lists.Total(x.l), x.want)
	}
	l := list(t, 3, 1, 2)
	l.Entries = append(l.Entries, lists.Entry{Item: item(1)})
	expect(t, "Find", all(lists.Find(l, 1)), all(1, true))
	expect(t, "Find", all(lists.Find(l, 9)), all(0, false))
	expect(t, "Find", all(lists.Find(entries(1), 0)), all(0, true))
	a := list(t, 1, 2)
	for _, change := range []func(x *lists.Entry){
		func(x *lists.Entry) { x.Size++ }, func(x *lists.Entry) { x.Known = true }, func(x *lists.Entry) { x.Item.Text = "x" }, func(x *lists.Entry) { x.Item.Marks = []string{"m"} },
	} {
		b := list(t, 1, 2)
		expect(t, "Same", lists.Same(a, b), true)
		change(&b.Entries[1])
		expect(t, "Same", lists.Same(a, b), false)
	}
	expect(t, "Same", all(lists.Same(a, list(t, 1)), lists.Same(a, list(t, 2, 1)), lists.Same(lists.List{}, lists.List{Entries: []lists.Entry{}})), all(false, false, true))
}

func TestP24_8Consequences(t *testing.T) {
	l, _ := lists.Insert(rules(), list(t, 1, 2, 3, 4), 2, []api.Item{marked(9, "u", "v")})
	l, _ = lists.Set(rules(), l, 2, 33)
	before := written(l)
	for at := range 6 {
		m, e := lists.Insert(rules(), l, at, items(20, 21))
		n, f := lists.Remove(rules(), m, at, 2)
		expect(t, "Remove of Insert", all(lists.Same(n, l), e, f), all(true, 0, 0))
		for count := range 6 - at {
			for to := range 6 - count {
				m, e := lists.Move(rules(), l, at, count, to)
				n, f := lists.Move(rules(), m, to, count, at)
				expect(t, "Move and back", all(lists.Same(n, l), e, f, lists.Total(m)), all(true, 0, 0, lists.Total(l)))
			}
		}
	}
	var same []api.Item
	for _, x := range l.Entries {
		same = append(same, x.Item)
	}
	m, e := lists.Change(rules(), l, 0, same)
	fresh, _ := lists.Reset(rules(), l, same)
	expect(t, "Change to the same items", all(lists.Same(m, fresh), e), all(true, 0))
	m, _ = lists.Move(rules(), l, 2, 1, 0)
	m.Entries[0].Item.Marks[0] = "new"
	m.Entries[1].Size = 1
	same[2].Marks[1] = "new"
	expect(t, "what was there", all(written(l), l.Entries[2].Item.Marks[0], fresh.Entries[2].Item.Marks), all(before, "u", "[u v]"))
}
