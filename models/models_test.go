package models_test

import (
	"fmt"
	"math"
	"slices"
	"testing"

	"paternoster/anchors"
	"paternoster/api"
	"paternoster/holds"
	"paternoster/lists"
	"paternoster/models"
	"paternoster/nodes"
	"paternoster/renders"
	"paternoster/windows"
)

// expect fails unless two values are written alike.
func expect(t *testing.T, what string, got, want any) {
	t.Helper()
	if g, w := fmt.Sprintf("%v", got), fmt.Sprintf("%v", want); g != w {
		t.Errorf("%s: %s, expected %s", what, g, w)
	}
}

func all(l ...any) []any { return l }

// config is the configuration of the chapter's examples.
func config() api.Config {
	part := api.Part{Kind: api.Element, Tag: "a"}
	return api.Config{View: 20, Least: 1, Cap: 64, Arena: 100, Kinds: []api.Kind{{Template: part, Base: 10, Pool: 1}}}
}

// rich has headers, marks and greater pools.
func rich() api.Config {
	c := config()
	row := api.Part{Kind: api.Element, Tag: "row", Parts: []api.Part{{Kind: api.Field}, {Kind: api.Each, Tag: "m"}}}
	head := api.Part{Kind: api.Element, Tag: "head", Parts: []api.Part{{Kind: api.Number}}}
	c.View, c.Over, c.Least, c.Cap, c.Arena = 30, 1, 2, 6, 60
	c.Kinds = []api.Kind{{Template: row, Base: 10, Pool: 2}, {Template: head, Base: 6, Sticky: true, Pool: 1}}
	return c
}

func items(keys ...uint64) []api.Item {
	var l []api.Item
	for _, key := range keys {
		l = append(l, api.Item{Key: key})
	}
	return l
}

func insert(at int, keys ...uint64) api.Notice {
	return api.Notice{Kind: api.Insert, At: at, Items: items(keys...)}
}

func remove(at, count int) api.Notice { return api.Notice{Kind: api.Remove, At: at, Count: count} }

func batch(l ...api.Notice) api.Event { return api.Event{Kind: api.Batch, Notices: l} }

func to(kind uint8, x int64) api.Event { return api.Event{Kind: kind, To: x} }

func reveal(key uint64) api.Event { return api.Event{Kind: api.Reveal, Key: key} }

// with returns an event with heights.
func with(x api.Event, l ...int64) api.Event {
	for i := 0; i < len(l); i += 2 {
		x.Heights = append(x.Heights, api.Height{Key: uint64(l[i]), Size: l[i+1]})
	}
	return x
}

// model returns a model behind events that have to be possible.
func model(t *testing.T, c api.Config, l ...api.Event) models.Model {
	t.Helper()
	m, e := models.New(c)
	for _, x := range l {
		if e == api.OK {
			m, e = m.Do(x)
		}
	}
	if e != api.OK {
		t.Fatal(e)
	}
	return m
}

// state writes a model down, as the chapter's examples do.
func state(m models.Model) string {
	var keys []uint64
	for _, r := range m.Holds().Rows {
		keys = append(keys, r.Key)
	}
	c := m.Counts()
	return fmt.Sprint(m.Offset(), keys, m.Rounds(), " ", c.Rebound, " ", c.Made, " ", c.Dropped, " ", c.Live)
}

// same reports whether two models are equal in all that their methods return.
func same(a, b models.Model) bool {
	return lists.Same(a.List(), b.List()) && holds.Same(a.Holds(), b.Holds()) && state(a) == state(b) && a.View() == b.View() &&
		slices.Equal(a.Attached(), b.Attached()) && renders.Same(a.Slice(), b.Slice())
}

func TestP33_1Check(t *testing.T) {
	expect(t, "Check", all(models.Check(config()), models.Check(rich())), all(0, 0))
	for i, change := range []func(c *api.Config){
		func(c *api.Config) { c.View = 0 }, func(c *api.Config) { c.View = api.MaxView + 1 }, func(c *api.Config) { c.Over = -1 }, func(c *api.Config) { c.Over = 17 }, func(c *api.Config) { c.Least = 0 }, func(c *api.Config) { c.Least = api.MaxHeight + 1 },
		func(c *api.Config) { c.Kinds = nil }, func(c *api.Config) { c.Kinds[0].Pool = 17 }, func(c *api.Config) { c.Kinds[0].Base = 0 }, func(c *api.Config) { c.Least = 11 }, func(c *api.Config) { c.Cap = 0 }, func(c *api.Config) { c.Arena = 0 },
		func(c *api.Config) { c.Arena = api.MaxArena + 1 }, func(c *api.Config) { c.Flaw = 7 }, func(c *api.Config) { c.Kinds[0].Template.Kind = api.Words },
	} {
		c := config()
		change(&c)
		_, e := models.New(c)
		expect(t, fmt.Sprint("Check ", i), all(models.Check(c), models.Event(c, api.Event{}), e), all(7, 7, 7))
	}
	c := config()
	c.Flaw, c.Least = 6, 10
	expect(t, "Check", models.Check(c), api.OK)
	for _, change := range []func(c *api.Config){func(c *api.Config) { c.View = 1 }, func(c *api.Config) { c.View = api.MaxView }, func(c *api.Config) { c.Over = api.MaxOver }, func(c *api.Config) { c.Least, c.Kinds[0].Base = api.MaxHeight, api.MaxHeight }} {
		c := config()
		change(&c)
		expect(t, "Check at the limits", models.Check(c), api.OK)
	}
}

func TestP33_1Event(t *testing.T) {
	many := make([]api.Notice, 33)
	for _, x := range []struct {
		x api.Event
		e api.Errno
	}{
		{to(api.ScrollTo, -5), 0}, {to(api.ScrollBy, math.MinInt64), 0}, {reveal(0), 0}, {to(api.Resize, 1), 0}, {to(api.Resize, api.MaxView), 0}, {batch(api.Notice{Kind: 9}), 0}, {batch(), 0}, {to(api.Measured, 0), 0}, {to(api.Trim, 0), 0}, {to(api.Trim, 16), 0},
		{with(batch(), 5, 1), 0}, {api.Event{Kind: api.Batch, Notices: many[:32]}, 0}, {with(to(api.Trim, 0), 5, 1), 0}, {api.Event{}, api.ErrArg}, {api.Event{Kind: 8, To: 1, Key: 1}, api.ErrArg}, {to(api.Reveal, 1), api.ErrForm}, {to(api.Batch, 1), api.ErrForm}, {to(api.Measured, 1), api.ErrForm},
		{api.Event{Kind: api.ScrollTo, Key: 1}, api.ErrForm}, {api.Event{Kind: api.Trim, Notices: many}, api.ErrForm}, {api.Event{Kind: api.Batch, Notices: many, Key: 1}, api.ErrForm}, {api.Event{Kind: api.Batch, Notices: many, Heights: make([]api.Height, 1)}, api.ErrLimit},
		{api.Event{Kind: api.Trim, To: 17, Heights: make([]api.Height, 257)}, api.ErrLimit}, {with(to(api.Resize, 0), 0, 0), api.ErrKey}, {with(to(api.Resize, 0), 1, 0), api.ErrHeight}, {with(to(api.Trim, -1), 1, 1, 1, 1), api.ErrTwice},
		{to(api.Resize, 0), api.ErrRange}, {to(api.Resize, api.MaxView+1), api.ErrRange}, {to(api.Trim, 17), api.ErrRange}, {to(api.Trim, -1), api.ErrRange},
	} {
		expect(t, fmt.Sprintf("Event %.60v", x.x), models.Event(config(), x.x), x.e)
		m := model(t, config())
		if after, e := m.Do(x.x); x.e != api.OK && (e != x.e || !same(m, after)) {
			t.Errorf("Do: error %d, expected %d", e, x.e)
		}
	}
	c := rich()
	expect(t, "Event below Least", models.Event(c, with(batch(), 1, 1)), api.ErrHeight)
}

// TestP33_1Fields gives events of every kind fields, those that they use and the others.
func TestP33_1Fields(t *testing.T) {
	uses := []struct{ to, key, notices bool }{{}, {to: true}, {to: true}, {key: true}, {to: true}, {notices: true}, {}, {to: true}}
	refused := map[bool]api.Errno{true: api.OK, false: api.ErrForm}
	for kind := api.ScrollTo; kind <= api.Trim; kind++ {
		u := uses[kind]
		x := to(kind, 1)
		expect(t, fmt.Sprint("To of ", kind), models.Event(config(), x), refused[u.to])
		x.To = 0
		if u.to {
			x.To = 2
		}
		expect(t, fmt.Sprint("Heights of ", kind), models.Event(config(), with(x, 5, 1)), api.OK)
		x.Key = 1
		expect(t, fmt.Sprint("Key of ", kind), models.Event(config(), x), refused[u.key])
		x.Key, x.Notices = 0, make([]api.Notice, 1)
		expect(t, fmt.Sprint("Notices of ", kind), models.Event(config(), x), refused[u.notices])
	}
	for _, kind := range []uint8{api.ScrollTo, api.ScrollBy} {
		for _, n := range []int64{math.MinInt64, -1, 0, math.MaxInt64} {
			expect(t, fmt.Sprint("To ", n), models.Event(config(), to(kind, n)), api.OK)
		}
	}
}

func TestP33_2New(t *testing.T) {
	c := config()
	m := model(t, c)
	c.Kinds[0].Template.Tag = "changed"
	expect(t, "New", all(state(m), m.View(), len(m.List().Entries), m.Config().Kinds[0].Template.Tag, m.Slice(), len(m.Holds().Pools)), all("0 [] 0 0 0 0 1", 20, 0, "a", api.Slice{}, 1))
}

func TestP33_3Do(t *testing.T) {
	m := model(t, config())
	for _, x := range []struct {
		x    api.Event
		want string
		e    api.Errno
	}{
		{with(batch(insert(0, 1, 2, 3, 4)), 2, 25), "0 [1 2] 1 0 2 0 3", 0}, {with(to(api.ScrollTo, 30), 3, 5), "30 [2 3 4] 1 1 1 0 4", 0}, {batch(remove(0, 1)), "20 [2 3 4] 0 0 0 0 4", 0}, {batch(remove(0, 1)), "0 [3 4] 0 0 0 0 4", 0},
		{reveal(9), "0 [3 4] 0 0 0 0 4", api.ErrNone}, {to(api.Resize, 0), "0 [3 4] 0 0 0 0 4", api.ErrRange}, {batch(insert(0, 3)), "0 [3 4] 0 0 0 0 4", api.ErrTwice}, {to(api.Trim, 0), "0 [3 4] 0 0 0 1 3", 0}, {with(to(api.Measured, 0), 4, 1), "0 [3 4] 0 0 0 0 3", 0},
		{with(to(api.Measured, 0), 4, 2, 9, 1), "0 [3 4] 0 0 0 0 3", api.ErrNone}, {batch(insert(0, 5), remove(9, 9)), "0 [3 4] 0 0 0 0 3", api.ErrRange}, {batch(insert(0, 7, 8)), "6 [7 8 3 4] 1 0 2 0 5", 0}, {to(api.Resize, 3), "6 [7] 0 0 0 2 3", 0},
		{to(api.ScrollBy, math.MaxInt64), "", 0},
	} {
		after, e := m.Do(x.x)
		if x.x.To != math.MaxInt64 && (state(after) != x.want || e != x.e) {
			t.Errorf("Do of %+v: %s (error %d), expected %s (error %d)", x.x, state(after), e, x.want, x.e)
		}
		if e != api.OK && !same(after, m) {
			t.Error("a refused event changes something")
		}
		m = after
	}
	expect(t, "ScrollBy", m.Offset(), 23)
	zero, e := models.Model{}.Do(api.Event{})
	expect(t, "Do of the zero Model", all(zero.View(), e), all(0, api.ErrNil))
}

func TestP33_3Kinds(t *testing.T) {
	m := model(t, rich(), batch(insert(0, 1, 2, 3, 4, 5, 6)))
	for _, x := range []struct {
		x      api.Event
		offset int64
	}{
		{to(api.ScrollTo, 12), 12}, {to(api.ScrollBy, 5), 17}, {to(api.ScrollBy, -9), 8}, {to(api.ScrollBy, math.MinInt64), 0}, {to(api.ScrollTo, math.MaxInt64), 30}, {to(api.ScrollTo, -1), 0}, {reveal(3), 20}, {reveal(6), 30}, {to(api.Resize, 5), 30}, {reveal(6), 50}, {to(api.Resize, 50), 10},
		{with(to(api.Measured, 0), 1, 3), 3}, {batch(remove(1, 1)), 0}, {batch(api.Notice{Kind: api.Reset}), 0},
	} {
		var e api.Errno
		m, e = m.Do(x.x)
		expect(t, fmt.Sprintf("the offset behind %+v", x.x), all(m.Offset(), e), all(x.offset, 0))
	}
	c := config()
	c.Arena = 3
	m = model(t, c, batch(insert(0, 1, 2, 3, 4)))
	after, e := m.Do(to(api.Resize, 21))
	expect(t, "Arena", all(e, same(m, after)), all(api.ErrArena, true))
	c.Kinds[0].Base = api.MaxHeight
	m = model(t, c, batch(insert(0, 1, 2)))
	after, e = m.Do(batch(insert(0, 3)))
	expect(t, "the total", all(e, same(m, after)), all(api.ErrOverflow, true))
}

func TestP33_4Methods(t *testing.T) {
	m := model(t, rich(), batch(insert(0, 1, 2, 3, 4, 5, 6)), to(api.ScrollTo, 15))
	rules := lists.Rules{Kinds: rich().Kinds, Cap: rich().Cap}
	slice, _ := renders.Slice(rules, m.List(), 15, 30)
	attached, _ := windows.Attached(rules, m.List(), 15, 30, 1)
	expect(t, "methods", all(renders.Same(m.Slice(), slice), m.Attached(), m.View(), m.Offset()), all(true, attached, 30, 15))
	l, h, c := m.List(), m.Holds(), m.Config()
	l.Entries[0].Size, h.Rows[0].Key, h.Rows[0].Tree.Children[0].Text, c.Kinds[0].Template.Parts[0].Kind = 99, 99, "new", 99
	expect(t, "new memory", all(m.List().Entries[0].Size, m.Holds().Rows[0].Key, m.Holds().Rows[0].Tree.Children[0].Text, m.Config().Kinds[0].Template.Parts[0].Kind), all(10, 1, "", api.Field))
	var z models.Model
	expect(t, "the zero Model", all(z.Slice(), z.Config(), len(z.List().Entries), z.View(), z.Offset(), z.Holds(), z.Rounds(), z.Counts(), z.Attached()), all(api.Slice{}, api.Config{}, 0, 0, 0, holds.State{}, 0, holds.Counts{}, []int{}))
}

// random returns an event by a fixed rule.
func random(next func(n int) int, m models.Model) api.Event {
	n := len(m.List().Entries)
	var x api.Event
	switch next(9) {
	case 0:
		x = to(api.ScrollTo, int64(next(200)-20))
	case 1:
		x = to(api.ScrollBy, int64(next(80)-40))
	case 2:
		x = reveal(uint64(next(30)))
	case 3:
		x = to(api.Resize, int64(next(60)))
	case 4:
		x = to(api.Trim, int64(next(3)))
	case 5:
		x = to(api.Measured, 0)
	default:
		x = batch()
		for range next(3) + 1 {
			at := next(n + 1)
			many := next(n - at + 1)
			item := api.Item{Key: uint64(next(30)), Type: uint8(next(5) / 4), Text: string(rune('a' + next(3))), Marks: []string{"u", "v", "w"}[:next(4)]}
			x.Notices = append(x.Notices, []api.Notice{insert(at, uint64(next(30)), uint64(next(30))), {Kind: api.Insert, At: at, Items: []api.Item{item}}, {Kind: api.Insert, At: at, Items: []api.Item{item}},
				remove(at, min(many, 2)), {Kind: api.Move, At: at, Count: many, To: next(n - many + 1)}, {Kind: api.Change, At: at, Items: []api.Item{item}}}[next(6)])
		}
		if next(40) == 0 {
			x.Notices = []api.Notice{{Kind: api.Reset}}
		}
	}
	used := map[int]bool{}
	for range next(4) {
		if key := next(30); !used[key] {
			used[key] = true
			x = with(x, int64(key), int64(next(20)))
		}
	}
	return x
}

func TestP33_5Consequences(t *testing.T) {
	seed := uint32(53)
	next := func(n int) int {
		seed = seed*1664525 + 1013904223
		return int(seed>>8) % n
	}
	done := 0
	for range 40 {
		m, other := model(t, rich()), model(t, rich())
		for range 60 {
			x := random(next, m)
			after, e := m.Do(x)
			if e != api.OK {
				if !same(m, after) {
					t.Fatal("a refused event changes something", e)
				}
				continue
			}
			done++
			other, _ = other.Do(x)
			if !same(after, other) {
				t.Fatal("two models with the same events are not equal")
			}
			check(t, m, after, x)
			m = after
		}
	}
	if done < 800 {
		t.Error("too few events", done)
	}
}

// check checks what is true behind an event.
func check(t *testing.T, before, m models.Model, x api.Event) {
	t.Helper()
	l, rows, attached := m.List(), m.Holds().Rows, m.Attached()
	bound, _ := windows.Bound(m.View(), m.Config().Least, m.Config().Over)
	rules := lists.Rules{Kinds: m.Config().Kinds, Cap: m.Config().Cap}
	if len(rows) != len(attached) || int64(len(rows)) > bound || m.Counts().Live > m.Config().Arena || holds.Live(m.Holds()) != m.Counts().Live {
		t.Fatal("bounds", len(rows), bound, m.Counts())
	}
	for k, i := range attached {
		tree, _ := lists.Tree(rules, l, i)
		if !l.Entries[i].Known || rows[k].Key != l.Entries[i].Item.Key || !nodes.Same(rows[k].Tree, tree) {
			t.Fatal("an attached row")
		}
	}
	end := max(0, lists.Total(l)-m.View())
	a, _ := anchors.Of(before.List(), before.Offset())
	_, survives := lists.Find(l, a.Key)
	if x.Kind >= api.Resize && survives && !anchors.Held(l, m.Offset(), a) && m.Offset() != 0 && m.Offset() != end {
		t.Fatal("the anchor is not held", a, m.Offset())
	}
	if x.Kind == api.Reveal {
		at, _ := lists.Find(l, x.Key)
		if top := lists.Total(lists.List{Entries: l.Entries[:at]}); m.Offset() != min(top, end) {
			t.Fatal("Reveal")
		}
	}
	c := m.Counts()
	if x.Kind != api.Trim && lists.Same(before.List(), l) && slices.Equal(before.Attached(), attached) && c.Rebound+c.Made+c.Dropped > 0 {
		t.Fatal("rows are used again though nothing has changed")
	}
}
