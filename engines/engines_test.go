package engines_test

import (
	"fmt"
	"math"
	"slices"
	"testing"

	"paternoster/api"
	"paternoster/doms"
	"paternoster/engines"
	"paternoster/holds"
	"paternoster/lists"
	"paternoster/models"
	"paternoster/mounts"
	"paternoster/nodes"
	"paternoster/pools"
	"paternoster/rebinds"
	"paternoster/renders"
)

// expect fails unless two values are written alike.
func expect(t *testing.T, what string, got, want any) {
	t.Helper()
	if g, w := fmt.Sprintf("%v", got), fmt.Sprintf("%v", want); g != w {
		t.Errorf("%s: %s, expected %s", what, g, w)
	}
}

func all(l ...any) []any { return l }

// config is the configuration of the chapter's examples.
func config() api.Config {
	row := api.Part{Kind: api.Element, Tag: "row", Parts: []api.Part{{Kind: api.Field}}}
	return api.Config{View: 25, Least: 1, Cap: 64, Arena: 100, Kinds: []api.Kind{{Template: row, Base: 10, Pool: 2}}}
}

// rich has headers, marks and little room.
func rich() api.Config {
	c := config()
	row := api.Part{Kind: api.Element, Tag: "row", Parts: []api.Part{{Kind: api.Field}, {Kind: api.Each, Tag: "m"}}}
	head := api.Part{Kind: api.Element, Tag: "head", Parts: []api.Part{{Kind: api.Number}}}
	c.View, c.Over, c.Least, c.Cap, c.Arena = 30, 1, 2, 6, 26
	c.Kinds = []api.Kind{{Template: row, Base: 10, Pool: 2}, {Template: head, Base: 6, Sticky: true, Pool: 1}}
	return c
}

// flawed returns a configuration with a flaw.
func flawed(c api.Config, flaw uint8) api.Config {
	c.Flaw = flaw
	return c
}

func items(keys ...uint64) []api.Item {
	var l []api.Item
	for _, key := range keys {
		l = append(l, api.Item{Key: key, Text: "x", Type: uint8(min(key/100, 1))})
	}
	return l
}

func insert(at int, keys ...uint64) api.Notice {
	return api.Notice{Kind: api.Insert, At: at, Items: items(keys...)}
}

func remove(at, count int) api.Notice { return api.Notice{Kind: api.Remove, At: at, Count: count} }

func batch(l ...api.Notice) api.Event { return api.Event{Kind: api.Batch, Notices: l} }

func to(kind uint8, x int64) api.Event { return api.Event{Kind: kind, To: x} }

func reveal(key uint64) api.Event { return api.Event{Kind: api.Reveal, Key: key} }

// with returns an event with heights.
func with(x api.Event, l ...int64) api.Event {
	for i := 0; i < len(l); i += 2 {
		x.Heights = append(x.Heights, api.Height{Key: uint64(l[i]), Size: l[i+1]})
	}
	return x
}

// engine returns an engine behind events that have to be possible.
func engine(t *testing.T, c api.Config, l ...api.Event) *engines.Engine {
	t.Helper()
	g, e := engines.New(c)
	for _, x := range l {
		if e == api.OK {
			e = g.Do(x)
		}
	}
	if e != api.OK {
		t.Fatal(e)
	}
	return g
}

// state writes an engine down: offset, rows, pools, counts, and live nodes.
func state(g *engines.Engine) string {
	var rows, pooled []uint64
	for _, r := range g.Rows() {
		rows = append(rows, r.Key)
	}
	l, _ := pools.All(g.Pools())
	for _, r := range l {
		pooled = append(pooled, r.Key)
	}
	c := g.Counts()
	return fmt.Sprintf("%d %v %v %d %d %d %d %d", g.Offset(), rows, pooled, c.Rounds, c.Rebound, c.Made, c.Dropped, g.Dom().Counters().Live)
}

func TestP38_1New(t *testing.T) {
	c := config()
	g := engine(t, c)
	c.Kinds[0].Template.Tag = "changed"
	expect(t, "New", all(state(g), g.View(), len(g.List().Entries), g.Dom().Counters(), g.Config().Kinds[0].Template.Tag), all("0 [] [] 0 0 0 0 1", 25, 0, doms.Counters{Live: 1, Created: 1}, "row"))
	for _, change := range []func(c *api.Config){func(c *api.Config) { c.View = 0 }, func(c *api.Config) { c.Flaw = 7 }, func(c *api.Config) { c.Kinds = nil }, func(c *api.Config) { c.Least = 11 }} {
		c := config()
		change(&c)
		g, e := engines.New(c)
		expect(t, "New", all(g == nil, e), all(true, api.ErrConfig))
	}
}

func TestP38_2Do(t *testing.T) {
	g := engine(t, config())
	for _, x := range []struct {
		x    api.Event
		want string
		e    api.Errno
	}{
		{batch(insert(0, 1, 2, 3, 4, 5)), "0 [1 2 3] [] 1 0 3 0 7", 0}, {with(to(api.ScrollBy, 20), 4, 40), "20 [3 4] [1] 1 1 0 0 7", 0}, {to(api.ScrollBy, 1000), "55 [4 5] [1] 0 1 0 0 7", 0}, {batch(remove(3, 2)), "5 [1 2 3] [] 0 2 1 1 7", 0},
		{to(api.Trim, 0), "5 [1 2 3] [] 0 0 0 0 7", 0}, {to(api.ScrollBy, 1), "5 [1 2 3] [] 0 0 0 0 7", 0}, {to(api.Resize, 10), "5 [1 2] [3] 0 0 0 0 7", 0}, {to(api.Trim, 0), "5 [1 2] [] 0 0 0 1 5", 0},
		{reveal(9), "5 [1 2] [] 0 0 0 1 5", api.ErrNone}, {batch(insert(0, 8), insert(0, 8)), "5 [1 2] [] 0 0 0 1 5", api.ErrTwice}, {with(to(api.Measured, 0), 1, 3, 9, 9), "5 [1 2] [] 0 0 0 1 5", api.ErrNone}, {to(9, 0), "5 [1 2] [] 0 0 0 1 5", api.ErrArg},
		{with(to(api.Measured, 0), 1, 3), "3 [2] [1] 0 0 0 0 5", 0}, {reveal(3), "13 [3] [2] 0 1 0 0 5", 0}, {to(api.ScrollTo, math.MinInt64), "0 [1 2] [] 0 1 1 1 5", 0}, {batch(api.Notice{Kind: api.Reset}), "0 [] [1 2] 0 0 0 0 5", 0},
	} {
		dom := g.Dom().Copy()
		e := g.Do(x.x)
		if e != x.e || e != api.OK && (state(g) != x.want || !doms.Same(dom, g.Dom())) {
			t.Errorf("Do of %+v: error %d, expected %d", x.x, e, x.e)
		}
		if x.x.Kind != api.Measured && x.x.Kind != api.Reveal && x.x.To != math.MinInt64 && len(g.List().Entries) > 0 {
			expect(t, fmt.Sprintf("Do of %+v", x.x), state(g), x.want)
		}
	}
	c := config()
	c.Arena = 7
	g = engine(t, c, batch(insert(0, 1, 2, 3, 4, 5)))
	before, dom := state(g), g.Dom().Copy()
	expect(t, "Arena", all(g.Do(with(to(api.Resize, 40), 4, 33)), state(g), g.View(), doms.Same(dom, g.Dom()), g.List().Entries[3].Known), all(api.ErrArena, before, 25, true, false))
	expect(t, "behind a refused event", all(g.Do(to(api.ScrollTo, 5)), state(g)), all(0, "5 [1 2 3] [] 0 0 0 0 7"))
}

func TestP38_2Places(t *testing.T) {
	c := rich()
	c.Over, c.View, c.Arena = 0, 20, 100
	for _, flaw := range []uint8{0, 4} {
		g := engine(t, flawed(c, flaw), batch(insert(0, 100, 1, 101, 2, 3)), to(api.ScrollTo, 14))
		var out []string
		for _, r := range g.Rows() {
			v, _ := g.Dom().Look(r.Root)
			out = append(out, fmt.Sprint(r.Key, v.Top, v.Size, v.Pinned))
		}
		want := "[100 10 6 true 1 6 10 false 101 16 6 false 2 22 10 false 3 32 10 false]"
		if flaw == 4 {
			want = "[100 14 6 true 1 6 10 false 101 16 6 false 2 22 10 false 3 32 10 false]"
		}
		expect(t, "places", out, want)
	}
}

func TestP38_2Flaws(t *testing.T) {
	c := rich()
	c.View, c.Over, c.Arena = 20, 0, 60
	for _, x := range []struct {
		flaw uint8
		l    []api.Event
		want string
	}{
		{0, []api.Event{batch(insert(0, 100, 1, 2, 3, 4, 5)), to(api.ScrollTo, 16), with(batch(api.Notice{Kind: api.Change, Items: items(100)}), 100, 20)}, "30 [100 2 3] [] 1 0 0 0 7"},
		{2, []api.Event{batch(insert(0, 100, 1, 2, 3, 4, 5)), to(api.ScrollTo, 16), with(batch(api.Notice{Kind: api.Change, Items: items(100)}), 100, 20)}, "16 [100 1 2] [] 1 1 0 0 7"},
		{0, []api.Event{batch(insert(0, 1, 2, 3)), batch(api.Notice{Kind: api.Reset})}, "0 [] [1 2] 0 0 0 0 5"}, {3, []api.Event{batch(insert(0, 1, 2, 3, 4, 5)), to(api.Resize, 50), batch(api.Notice{Kind: api.Reset})}, "0 [] [1 2 3 4 5] 0 0 0 0 11"},
		{0, []api.Event{batch(insert(0, 1, 2, 3, 4)), batch(insert(0, 5))}, "10 [1 2] [] 0 0 0 0 5"}, {6, []api.Event{batch(insert(0, 1, 2, 3, 4)), batch(insert(0, 5))}, "0 [5 1] [] 1 1 0 0 5"},
		{6, []api.Event{batch(insert(0, 1, 2, 3, 4)), reveal(4), batch(remove(1, 3))}, "0 [1] [3] 0 1 0 0 5"}, {6, []api.Event{batch(insert(0, 1, 2, 3, 4, 5, 6, 7, 8, 9)), reveal(9), batch(remove(6, 3))}, "40 [5 6] [] 1 2 0 0 5"}, {6, []api.Event{batch(insert(0, 1)), batch(remove(0, 1)), batch(insert(0, 2))}, "0 [2] [] 1 1 0 0 3"},
	} {
		g := engine(t, flawed(c, x.flaw))
		for _, e := range x.l {
			g.Do(e)
		}
		expect(t, fmt.Sprint("the flaw ", x.flaw), state(g), x.want)
	}
	c.Arena = 5
	for flaw, known := range map[uint8]bool{0: false, 5: true} {
		g := engine(t, flawed(c, flaw), batch(insert(0, 1, 2, 3, 4)))
		expect(t, "the flaw 5", all(g.Do(with(to(api.Resize, 35), 3, 7)), g.List().Entries[2].Known, g.View(), g.List().Entries[3].Known), all(api.ErrArena, known, 20, known))
	}
	g := engine(t, flawed(c, 5), batch(insert(0, 1, 2, 3, 4)))
	expect(t, "the flaw 5 with another error", all(g.Do(with(batch(insert(0, 1)), 3, 7)), g.List().Entries[2].Known), all(api.ErrTwice, false))
	expect(t, "the flaw 5 with entries that are not there", all(g.Do(with(batch(insert(2, 9, 8), remove(0, 1), insert(5, 7)), 9, 3, 8, 3, 3, 4)), g.List().Entries[2].Size, len(g.List().Entries)), all(api.ErrArena, 4, 4))
}

func TestP38_3Values(t *testing.T) {
	g := engine(t, config(), batch(insert(0, 1, 2)), to(api.Resize, 15))
	expect(t, "values", all(g.View(), g.Offset(), g.Counts(), len(g.List().Entries)), all(15, 0, engines.Counts{}, 2))
	g.List().Entries[0].Size = 99
	g.Config().Kinds[0].Base = 99
	expect(t, "new memory", all(g.List().Entries[0].Size, g.Config().Kinds[0].Base), all(10, 10))
	for _, g := range []*engines.Engine{nil, {}} {
		expect(t, "nil", all(g.Do(api.Event{}), g.Config(), g.View(), g.Offset(), g.Counts(), len(g.List().Entries), g.Dom() == nil, g.Root(), len(g.Rows()), g.Pools()),
			all(2, api.Config{}, 0, 0, engines.Counts{}, 0, true, api.Handle{}, 0, pools.Pools[rebinds.Row]{}))
	}
}

func TestP38_4Parts(t *testing.T) {
	g := engine(t, config(), batch(insert(0, 1, 2, 3)), to(api.Resize, 10))
	v, _ := g.Dom().Look(g.Root())
	rows := g.Rows()
	expect(t, "parts", all(v.Tag, v.Children, g.Pools().Bounds, len(g.Pools().Rows[0])), all("list", []api.Handle{rows[0].Root}, []int{2}, 2))
	rows[0].Tree.Children[0].Text = "new"
	expect(t, "new memory", g.Rows()[0].Tree.Children[0].Text, "x")
}

// random returns an event by a fixed rule.
func random(next func(n int) int, n int) api.Event {
	var x api.Event
	switch next(9) {
	case 0:
		x = to(api.ScrollTo, int64(next(200)-20))
	case 1:
		x = to(api.ScrollBy, int64(next(80)-40))
	case 2:
		x = reveal(uint64(next(30)))
	case 3:
		x = to(api.Resize, int64(next(60)))
	case 4:
		x = to(api.Trim, int64(next(3)))
	case 5:
		x = to(api.Measured, 0)
	default:
		x = batch()
		for range next(3) + 1 {
			at := next(n + 1)
			many := next(n - at + 1)
			item := api.Item{Key: uint64(next(30)), Type: uint8(next(5) / 4), Text: string(rune('a' + next(3))), Marks: []string{"u", "v", "w"}[:next(4)]}
			x.Notices = append(x.Notices, []api.Notice{insert(at, uint64(next(30)), uint64(next(30))), {Kind: api.Insert, At: at, Items: []api.Item{item}}, {Kind: api.Insert, At: at, Items: []api.Item{item}},
				remove(at, min(many, 2)), {Kind: api.Move, At: at, Count: many, To: next(n - many + 1)}, {Kind: api.Change, At: at, Items: []api.Item{item}}}[next(6)])
		}
		if next(40) == 0 {
			x.Notices = []api.Notice{{Kind: api.Reset}}
		}
	}
	used := map[int]bool{}
	for range next(4) {
		if key := next(30); !used[key] {
			used[key] = true
			x = with(x, int64(key), int64(next(20)))
		}
	}
	return x
}

// held returns the rows of an engine as those of a model.
func held(g *engines.Engine) holds.State {
	convert := func(l []rebinds.Row) []holds.Held {
		var out []holds.Held
		for _, r := range l {
			out = append(out, holds.Held{Key: r.Key, Type: r.Type, Tree: r.Tree})
		}
		return out
	}
	s := holds.State{Rows: convert(g.Rows())}
	for _, l := range g.Pools().Rows {
		s.Pools = append(s.Pools, convert(l))
	}
	return s
}

func TestP38_5Consequences(t *testing.T) {
	seed := uint32(79)
	next := func(n int) int {
		seed = seed*1664525 + 1013904223
		return int(seed>>8) % n
	}
	answers := map[api.Errno]int{}
	for range 60 {
		g := engine(t, rich())
		m, _ := models.New(rich())
		for range 60 {
			x := random(next, len(m.List().Entries))
			dom, before, rows := g.Dom().Copy(), state(g), g.Rows()
			after, want := m.Do(x)
			got := g.Do(x)
			answers[got]++
			if got != want || got != api.OK && (state(g) != before || !doms.Same(dom, g.Dom())) {
				t.Fatalf("%+v: error %d, expected %d", x, got, want)
			}
			agree(t, g, after)
			quiet(t, g, rows, dom, x)
			m = after
		}
	}
	for _, e := range []api.Errno{api.OK, api.ErrArena, api.ErrNone, api.ErrTwice, api.ErrKey, api.ErrHeight} {
		if answers[e] < 5 {
			t.Error("too few events with the answer", e, answers)
		}
	}
}

// agree fails unless an engine has what a model has.
func agree(t *testing.T, g *engines.Engine, m models.Model) {
	t.Helper()
	c := m.Counts()
	if !lists.Same(g.List(), m.List()) || g.View() != m.View() || g.Offset() != m.Offset() || !holds.Same(held(g), m.Holds()) ||
		g.Counts() != (engines.Counts{Rounds: m.Rounds(), Rebound: c.Rebound, Made: c.Made, Dropped: c.Dropped}) || g.Dom().Counters().Live != c.Live {
		t.Fatal("the engine is not as the model", state(g), m.Offset(), m.Rounds(), c)
	}
	slice := m.Slice()
	seen := api.Slice{Offset: g.Offset(), Pinned: slice.Pinned}
	for _, r := range g.Rows() {
		is, _ := mounts.Is(g.Dom(), r.Root, r.Tree)
		v, _ := g.Dom().Look(r.Root)
		row := api.Row{Key: r.Key, Top: v.Top - g.Offset(), Size: v.Size, Tree: nodes.Strip(r.Tree)}
		if !is {
			t.Fatal("a row has another tree in the DOM")
		}
		if v.Pinned {
			seen.Head = row
		} else if v.Top < g.Offset()+g.View() && v.Top+v.Size > g.Offset() {
			seen.Rows = append(seen.Rows, row)
		}
	}
	if !renders.Same(seen, slice) {
		t.Fatal("something else is seen", seen, slice)
	}
}

// quiet fails if scrolling costs something though the same rows are attached, or a
// row that stays gets another handle.
func quiet(t *testing.T, g *engines.Engine, before []rebinds.Row, dom *doms.Dom, x api.Event) {
	t.Helper()
	same := slices.EqualFunc(before, g.Rows(), func(a, b rebinds.Row) bool { return a.Key == b.Key && a.Type == b.Type })
	a, b := dom.Counters(), g.Dom().Counters()
	a.Placed, b.Placed = 0, 0
	if same && x.Kind <= api.Reveal && a != b {
		t.Fatal("scrolling costs something", a, b)
	}
	for _, old := range before {
		for _, r := range g.Rows() {
			if r.Key == old.Key && r.Type == old.Type && r.Root != old.Root {
				t.Fatal("a row that stays has another handle")
			}
		}
	}
}
