package stores_test

import (
	"fmt"
	"math"
	"testing"

	"paternoster/anchors"
	"paternoster/api"
	"paternoster/layouts"
	"paternoster/lists"
	"paternoster/notices"
	"paternoster/settles"
	"paternoster/stores"
)

// expect fails unless two values are written alike.
func expect(t *testing.T, what string, got, want any) {
	t.Helper()
	if g, w := fmt.Sprintf("%v", got), fmt.Sprintf("%v", want); g != w {
		t.Errorf("%s: %s, expected %s", what, g, w)
	}
}

func all(l ...any) []any { return l }

// rules returns rows, headers, and rows of the greatest height.
func rules() lists.Rules {
	row := api.Part{Kind: api.Element, Tag: "row", Parts: []api.Part{{Kind: api.Field}, {Kind: api.Each, Tag: "m"}}}
	return lists.Rules{Cap: 6, Kinds: []api.Kind{{Template: row, Base: 10}, {Template: row, Base: 6, Sticky: true}, {Template: row, Base: api.MaxHeight}}}
}

func item(key uint64, kind uint8, marks ...string) api.Item {
	return api.Item{Key: key, Type: kind, Text: "x", Marks: marks}
}

func insert(at int, l ...api.Item) api.Notice {
	return api.Notice{Kind: api.Insert, At: at, Items: l}
}

func change(at int, l ...api.Item) api.Notice {
	return api.Notice{Kind: api.Change, At: at, Items: l}
}

func reset(l ...api.Item) api.Notice { return api.Notice{Kind: api.Reset, Items: l} }

func remove(at, count int) api.Notice { return api.Notice{Kind: api.Remove, At: at, Count: count} }

func move(at, count, to int) api.Notice {
	return api.Notice{Kind: api.Move, At: at, Count: count, To: to}
}

// store returns a store behind notices that have to be possible.
func store(t *testing.T, l ...api.Notice) *stores.Store {
	t.Helper()
	s, e := stores.New(rules())
	if e != api.OK {
		t.Fatal(e)
	}
	for _, n := range l {
		if e := s.Apply(n); e != api.OK {
			t.Fatal(e)
		}
	}
	return s
}

// written writes a store down.
func written(s *stores.Store) string {
	out := []string{}
	for _, x := range s.List().Entries {
		out = append(out, fmt.Sprintf("%d:%d%s", x.Item.Key, x.Size, map[bool]string{true: "!"}[x.Known]))
	}
	return fmt.Sprint(out)
}

// sound fails unless a store finds its keys, and its layout is that of its list.
func sound(t *testing.T, s *stores.Store) {
	t.Helper()
	l, layout := s.List(), s.Layout()
	if s.Len() != len(l.Entries) || layout.Len() != s.Len() || lists.Check(rules(), l) != api.OK {
		t.Fatal("the list is not valid")
	}
	for i, x := range l.Entries {
		at, found := s.Find(x.Item.Key)
		got, e := s.Item(i)
		size, _ := layout.Size(i)
		known, _ := layout.Known(i)
		sticky, _ := layout.Sticky(i)
		tree, f := s.Tree(i)
		want, _ := lists.Tree(rules(), lists.List{Entries: l.Entries[i : i+1]}, 0)
		if at != i || !found || e|f != 0 || fmt.Sprint(got, tree) != fmt.Sprint(x.Item, want) || size != x.Size || known != x.Known || sticky != (x.Item.Type == 1) {
			t.Fatal("the entry", i, x, at, found)
		}
	}
}

func TestP35_1NewCopy(t *testing.T) {
	c := rules()
	s, e := stores.New(c)
	c.Kinds[0].Template.Tag = "changed"
	expect(t, "New", all(written(s), s.Len(), e, s.Layout().Len()), all("[]", 0, 0, 0))
	s.Apply(insert(0, item(1, 0), item(2, 1)))
	tree, _ := s.Tree(0)
	expect(t, "Tree", tree.Tag, "row")
	o := s.Copy()
	s.Apply(remove(0, 1))
	o.Apply(insert(2, item(3, 0)))
	o.Measure([]api.Height{{Key: 1, Size: 4}})
	expect(t, "Copy", all(written(s), written(o)), all("[2:6]", "[1:4! 2:6 3:10]"))
	sound(t, s)
	sound(t, o)
	none, e := stores.New(lists.Rules{})
	expect(t, "New", all(none == nil, e), all(true, api.ErrConfig))
}

func TestP35_2LenItemTreeFind(t *testing.T) {
	s := store(t, insert(0, item(5, 0, "u"), item(7, 1)))
	expect(t, "Item", all(s.Item(0)), all(item(5, 0, "u"), 0))
	expect(t, "Find", all(s.Find(7)), all(1, true))
	expect(t, "Find", all(s.Find(0)), all(0, false))
	expect(t, "Find", all(s.Find(6)), all(0, false))
	for _, i := range []int{-1, 2, math.MaxInt} {
		expect(t, "Item", all(s.Item(i)), all(api.Item{}, api.ErrRange))
		expect(t, "Tree", all(s.Tree(i)), all(api.Node{}, api.ErrRange))
	}
	x, _ := s.Item(0)
	x.Marks[0] = "new"
	s.List().Entries[0].Item.Marks[0] = "new"
	expect(t, "new memory", all(s.Item(0)), all(item(5, 0, "u"), 0))
}

func TestP35_3ListLayout(t *testing.T) {
	s := store(t, insert(0, item(5, 0), item(7, 1)))
	expect(t, "List", all(written(s), s.Layout().Total()), all("[5:10 7:6]", 16))
	s.Layout().Set(0, 99, true)
	s.Layout().Mark(0, true)
	expect(t, "Layout is a copy", all(written(s), s.Layout().Total()), all("[5:10 7:6]", 16))
	sound(t, s)
}

func TestP35_4ApplyAll(t *testing.T) {
	s := store(t, insert(0, item(5, 0), item(7, 1)))
	expect(t, "All", all(s.All([]api.Notice{move(0, 1, 1), remove(0, 1)})), all(2, 0))
	expect(t, "All", all(s.Find(5)), all(0, true))
	expect(t, "All", all(s.Find(7)), all(0, false))
	expect(t, "All", all(s.All([]api.Notice{remove(0, 1), remove(0, 1)})), all(1, api.ErrRange))
	expect(t, "what was refused", written(s), "[5:10]")
	expect(t, "All", all(s.All(make([]api.Notice, 33))), all(0, api.ErrLimit))
	expect(t, "All", all(s.All([]api.Notice{{Kind: api.Reset, At: 1}})), all(0, api.ErrForm))
	expect(t, "All", all(s.All([]api.Notice{remove(0, 1), {}})), all(1, api.ErrArg))
	expect(t, "All", all(s.All(nil)), all(0, 0))
	sound(t, s)
	s = store(t, insert(0, item(1, 0), item(2, 2)))
	expect(t, "Change: only the total behind it counts", all(s.Apply(insert(2, item(3, 0), item(4, 0))), s.Apply(change(0, item(1, 2), item(2, 0))), written(s)), all(0, 0, "[1:2305843009213693952 2:10 3:10 4:10]"))
	x := item(9, 0, "u")
	s.Apply(insert(0, x))
	x.Marks[0] = "new"
	expect(t, "what was passed", all(s.Item(0)), all(item(9, 0, "u"), 0))
}

// TestP35_4AgainstNotices compares with notices on lists, also what is refused.
func TestP35_4AgainstNotices(t *testing.T) {
	seed := uint32(61)
	next := func(n int) int {
		seed = seed*1664525 + 1013904223
		return int(seed>>8) % n
	}
	s := store(t)
	l := lists.List{}
	refused := 0
	for range 3000 {
		n := len(l.Entries)
		at := next(n+3) - 1
		one := func() api.Item {
			x := item(uint64(next(60)), uint8(next(30)/10), []string{"u", "v", "v"}[:next(4)]...)
			if next(30) == 0 {
				x.Text = "\n"
			}
			if x.Type == 2 && next(4) > 0 {
				x.Type = 0
			}
			return x
		}
		var x api.Notice
		switch next(6) {
		case 0, 1:
			x = insert(at, one(), one())
		case 2:
			x = remove(at, next(4)-1)
		case 3:
			x = move(at, next(4)-1, next(n+2)-1)
		case 4:
			x = change(at, one())
			if at >= 0 && at < n && next(8) > 0 {
				x.Items[0].Key = l.Entries[at].Item.Key
			}
		default:
			x = insert(at)
			if next(20) == 0 {
				x = reset(one(), one())
			}
		}
		if next(50) == 0 {
			x.To = 5
		}
		want, e := notices.Apply(rules(), l, x)
		before := written(s)
		if got := s.Apply(x); got != e {
			t.Fatalf("%+v: error %d, expected %d", x, got, e)
		}
		if e != api.OK {
			refused++
			expect(t, "what was refused", written(s), before)
			continue
		}
		l = want
		if len(l.Entries) > 0 && next(3) == 0 {
			h := []api.Height{{Key: l.Entries[0].Item.Key, Size: int64(1 + next(9))}}
			s.Measure(h)
			l, _ = lists.Set(rules(), l, h[0].Key, h[0].Size)
		}
		if !lists.Same(s.List(), l) {
			t.Fatalf("%+v: %s", x, written(s))
		}
		sound(t, s)
	}
	if refused < 300 || refused > 2500 {
		t.Error(refused)
	}
	var many []api.Item
	for i := range api.MaxItems + 1 {
		many = append(many, item(uint64(1000+i), 0))
	}
	full := store(t, reset(many[1:]...))
	expect(t, "as many entries as there may be", full.Len(), api.MaxItems)
	full = store(t, insert(0, many[1:]...))
	expect(t, "limits", all(full.Apply(insert(0, item(1, 0))), full.Apply(reset(many...)), full.Apply(reset(many[:3]...)), full.Len()), all(api.ErrLimit, api.ErrLimit, 0, 3))
}

func TestP35_5Measure(t *testing.T) {
	s := store(t, insert(0, item(5, 0), item(7, 1), item(8, 2)))
	h := func(l ...int64) []api.Height {
		var out []api.Height
		for i := 0; i < len(l); i += 2 {
			out = append(out, api.Height{Key: uint64(l[i]), Size: l[i+1]})
		}
		return out
	}
	for _, x := range []struct {
		l  []api.Height
		at int
		e  api.Errno
	}{
		{h(5, 30, 6, 1), 1, api.ErrNone}, {h(0, 0), 0, api.ErrNone}, {h(5, 0), 0, api.ErrHeight}, {h(5, 1, 7, api.MaxHeight+1), 1, api.ErrHeight}, {h(5, api.MaxHeight), 0, api.ErrOverflow}, {h(5, 7, 7, api.MaxHeight), 1, api.ErrOverflow},
	} {
		expect(t, "Measure", all(s.Measure(x.l)), all(x.at, x.e))
		expect(t, "what was refused", written(s), "[5:10 7:6 8:2305843009213693952]")
	}
	expect(t, "Measure", all(s.Measure(h(8, 3, 5, 30, 5, 31))), all(3, 0))
	expect(t, "Measure", all(written(s), s.Layout().Total()), all("[5:31! 7:6 8:3!]", 40))
	expect(t, "Measure", all(s.Measure(nil)), all(0, 0))
}

func TestP35_6AnchorAfter(t *testing.T) {
	s := store(t, insert(0, item(5, 0), item(7, 1), item(8, 0)))
	for x, want := range map[int64]anchors.Anchor{0: {Key: 5}, 9: {Key: 5, Delta: 9}, 10: {Key: 7}, 25: {Key: 8, Delta: 9}} {
		expect(t, "Anchor", all(s.Anchor(x)), all(want, 0))
	}
	for _, x := range []int64{-1, 26, math.MaxInt64} {
		expect(t, "Anchor", all(s.Anchor(x)), all(anchors.Anchor{}, api.ErrRange))
	}
	expect(t, "Anchor", all(store(t).Anchor(0)), all(anchors.Anchor{}, 0))
	expect(t, "Anchor", all(store(t).Anchor(1)), all(anchors.Anchor{}, api.ErrRange))
	now := store(t, insert(0, item(8, 0), item(5, 0)))
	for _, a := range []anchors.Anchor{{}, {Key: 7, Delta: 3}, {Key: 5, Delta: 3}, {Key: 9, Delta: 3}, {Delta: -4}} {
		expect(t, "After", now.After(s, a), anchors.After(s.List(), now.List(), a))
		expect(t, "After", now.After(nil, a), anchors.After(lists.List{}, now.List(), a))
		expect(t, "After", store(t).After(s, a), anchors.Anchor{})
	}
}

func TestP35_7Settle(t *testing.T) {
	seed := uint32(67)
	next := func(n int) int {
		seed = seed*1664525 + 1013904223
		return int(seed>>8) % n
	}
	for range 300 {
		s := store(t)
		var table []api.Height
		for i := range next(20) {
			s.Apply(insert(i, item(uint64(i+1), uint8(next(4)/3))))
			if next(2) == 0 {
				table = append(table, api.Height{Key: uint64(i + 1), Size: int64(1 + next(15))})
			}
		}
		var a anchors.Anchor
		if n := s.Len(); n > 0 && next(5) > 0 {
			a = anchors.Anchor{Key: uint64(1 + next(n)), Delta: int64(next(12))}
		}
		f := layouts.Frame{View: int64(1 + next(40)), Over: next(3)}
		want, e := settles.Settle(settles.Frame{Rules: rules(), View: f.View, Over: f.Over, Least: 1}, s.List(), a, table)
		offset, rounds, g := s.Settle(f, a, table)
		if e|g != 0 || offset != want.Offset || rounds != want.Rounds || !lists.Same(s.List(), want.List) {
			t.Fatal(e, g, offset, rounds, want)
		}
		sound(t, s)
	}
}

func TestP35_7SettleRefuses(t *testing.T) {
	s := store(t, insert(0, item(5, 0), item(7, 0), item(8, 2)))
	before := written(s)
	f := layouts.Frame{View: 20}
	for _, x := range []struct {
		f     layouts.Frame
		a     anchors.Anchor
		table []api.Height
		e     api.Errno
	}{
		{layouts.Frame{}, anchors.Anchor{Delta: 1}, make([]api.Height, 1), api.ErrArg}, {layouts.Frame{View: 1, Over: 17}, anchors.Anchor{}, nil, api.ErrArg}, {f, anchors.Anchor{Delta: 1}, make([]api.Height, 1), api.ErrKey}, {f, anchors.Anchor{Key: 9}, make([]api.Height, 257), api.ErrLimit},
		{f, anchors.Anchor{Key: 9}, []api.Height{{Key: 1}}, api.ErrHeight}, {f, anchors.Anchor{Key: 9, Delta: -1}, nil, api.ErrArg}, {f, anchors.Anchor{Key: 9}, nil, api.ErrNone}, {f, anchors.Anchor{Key: 5}, []api.Height{{Key: 7, Size: api.MaxHeight}}, api.ErrOverflow},
	} {
		expect(t, "Settle", all(s.Settle(x.f, x.a, x.table)), all(0, 0, x.e))
		expect(t, "what was refused", written(s), before)
	}
	l := store(t, insert(0, item(1, 1), item(2, 0), item(3, 0), item(4, 0)))
	f.Loose = true
	expect(t, "Settle loosely", all(l.Settle(f, anchors.Anchor{Key: 3}, []api.Height{{Key: 1, Size: 30}})), all(16, 2, 0))
}

func TestP35_8NilAndZero(t *testing.T) {
	for _, s := range []*stores.Store{nil, {}} {
		expect(t, "nil", all(s.Copy() == nil, s.Len(), len(s.List().Entries), s.Layout() == nil, s.Apply(remove(0, 0)), s.After(nil, anchors.Anchor{Key: 1})), all(true, 0, 0, true, 2, anchors.Anchor{}))
		expect(t, "nil", all(s.Item(0)), all(api.Item{}, 2))
		expect(t, "nil", all(s.Tree(0)), all(api.Node{}, 2))
		expect(t, "nil", all(s.Find(1)), all(0, false))
		expect(t, "nil", all(s.All(nil)), all(0, 2))
		expect(t, "nil", all(s.Measure(nil)), all(0, 2))
		expect(t, "nil", all(s.Anchor(0)), all(anchors.Anchor{}, 2))
		expect(t, "nil", all(s.Settle(layouts.Frame{}, anchors.Anchor{}, nil)), all(0, 0, 2))
		expect(t, "After", store(t, insert(0, item(4, 0))).After(s, anchors.Anchor{}), anchors.Anchor{Key: 4})
	}
}
