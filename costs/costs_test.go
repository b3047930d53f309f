package costs_test

import (
	"fmt"
	"math"
	"slices"
	"testing"

	"paternoster/api"
	"paternoster/costs"
	"paternoster/engines"
	"paternoster/holds"
	"paternoster/lists"
	"paternoster/models"
	"paternoster/nodes"
)

// expect fails unless two values are written alike.
func expect(t *testing.T, what string, got, want any) {
	t.Helper()
	if g, w := fmt.Sprintf("%+v", got), fmt.Sprintf("%+v", want); g != w {
		t.Errorf("%s: %s, expected %s", what, g, w)
	}
}

func all(l ...any) []any { return l }

// config is the configuration of the chapter's examples.
func config() api.Config {
	row := api.Part{Kind: api.Element, Tag: "row", Parts: []api.Part{{Kind: api.Field}}}
	return api.Config{View: 25, Least: 1, Cap: 64, Arena: 100, Kinds: []api.Kind{{Template: row, Base: 10, Pool: 2}}}
}

// rich has headers and marks.
func rich() api.Config {
	c := config()
	row := api.Part{Kind: api.Element, Tag: "row", Slots: []api.Slot{{Name: "t", From: 1}}, Parts: []api.Part{{Kind: api.Field}, {Kind: api.Each, Tag: "m"}}}
	head := api.Part{Kind: api.Element, Tag: "head", Parts: []api.Part{{Kind: api.Number}}}
	c.Over, c.Least, c.Cap, c.Arena = 1, 4, 8, 400
	c.Kinds = []api.Kind{{Template: row, Base: 10, Pool: 2}, {Template: head, Base: 6, Sticky: true, Pool: 1}}
	return c
}

func insert(at int, keys ...uint64) api.Event {
	n := api.Notice{Kind: api.Insert, At: at}
	for _, key := range keys {
		n.Items = append(n.Items, api.Item{Key: key, Text: "x"})
	}
	return api.Event{Kind: api.Batch, Notices: []api.Notice{n}}
}

func to(kind uint8, x int64) api.Event { return api.Event{Kind: kind, To: x} }

func engine(t *testing.T, c api.Config) *engines.Engine {
	t.Helper()
	g, e := engines.New(c)
	if e != api.OK {
		t.Fatal(e)
	}
	return g
}

func TestP40_1OfRun(t *testing.T) {
	g := engine(t, config())
	events := []api.Event{insert(0, 1, 2, 3, 4, 5), to(api.ScrollTo, 10), to(api.ScrollTo, 12), to(api.Resize, 0), to(api.Trim, 0)}
	wants := []costs.Cost{{Created: 6, Inserted: 6, Placed: 3, Rounds: 1, Made: 3}, {Removed: 1, Inserted: 1, Placed: 1, Rounds: 1, Rebound: 1}, {}, {}, {}}
	for i, x := range events {
		c, e := costs.Of(g, x)
		expect(t, "Of", all(c, e), all(wants[i], map[bool]api.Errno{true: api.ErrRange}[i == 3]))
	}
	c, refused, e := costs.Run(engine(t, config()), events)
	expect(t, "Run", all(c, refused, e), all(costs.Cost{Created: 6, Inserted: 7, Removed: 1, Placed: 4, Rounds: 2, Rebound: 1, Made: 3}, 1, 0))
	moved, e := costs.Of(g, api.Event{Kind: api.Batch, Notices: []api.Notice{{Kind: api.Move, At: 2, Count: 1, To: 3}}})
	expect(t, "a move", all(moved, e), all(costs.Cost{Moved: 1, Placed: 2}, 0))
	for _, g := range []*engines.Engine{nil, {}} {
		c, e := costs.Of(g, api.Event{})
		d, n, f := costs.Run(g, events)
		expect(t, "nil", all(c, e, d, n, f), all(costs.Cost{}, api.ErrNil, costs.Cost{}, 0, api.ErrNil))
	}
}

func TestP40_2PlusQuiet(t *testing.T) {
	a := costs.Cost{Created: 1, Freed: 2, Inserted: 3, Removed: 4, Moved: 5, Wrote: 6, Placed: 7, Rounds: 8, Rebound: 9, Made: 10, Dropped: 11}
	b := costs.Cost{Created: 100, Freed: 200, Inserted: 300, Removed: 400, Moved: 500, Wrote: 600, Placed: 700, Rounds: 800, Rebound: 900, Made: 1000, Dropped: -11}
	expect(t, "Plus", costs.Plus(a, b), costs.Cost{Created: 101, Freed: 202, Inserted: 303, Removed: 404, Moved: 505, Wrote: 606, Placed: 707, Rounds: 808, Rebound: 909, Made: 1010})
	expect(t, "the arguments", all(a.Created, b.Created), all(1, 100))
	for _, x := range []costs.Cost{{}, {Placed: 1}, {Rounds: 1}, {Rebound: 1}, {Made: 1}, {Dropped: 1}} {
		expect(t, "Quiet", costs.Quiet(x), true)
	}
	for _, x := range []costs.Cost{{Created: 1}, {Freed: -1}, {Inserted: 1}, {Removed: 1}, {Moved: 1}, {Wrote: 1}} {
		expect(t, "Quiet", costs.Quiet(x), false)
	}
}

func TestP40_3Commit(t *testing.T) {
	c := rich()
	var l lists.List
	for i, marks := range []int{0, 2, 1, 0, 3} {
		x := api.Item{Key: uint64(i + 1), Text: fmt.Sprint("t", i), Marks: []string{"u", "v", "w"}[:marks], Type: uint8(i / 3 % 2)}
		l.Entries = append(l.Entries, lists.Entry{Item: x, Size: c.Kinds[x.Type].Base})
	}
	empty, _ := holds.Empty(c)
	first, _, _ := holds.Commit(c, empty, l, []int{0, 1, 3})
	second, _, _ := holds.Commit(c, first, l, nil)
	for _, x := range []struct {
		s        holds.State
		attached []int
		want     costs.Cost
	}{
		{empty, []int{0, 1, 3}, costs.Cost{Created: 2 + 6 + 2, Inserted: 10, Wrote: 2, Made: 3}}, {first, []int{0, 1, 3}, costs.Cost{}}, {first, nil, costs.Cost{Removed: 3}},
		{second, []int{2}, costs.Cost{Created: 0, Freed: 2, Inserted: 1, Removed: 1, Wrote: 2, Rebound: 1}}, {first, []int{1, 2}, costs.Cost{Created: 2, Inserted: 3, Removed: 2, Wrote: 2, Rebound: 1}},
	} {
		got, e := costs.Commit(c, x.s, l, x.attached)
		expect(t, "Commit", all(got, e), all(x.want, 0))
	}
	small := c
	small.Kinds = slices.Clone(c.Kinds)
	small.Kinds[0].Pool = 0
	got, e := costs.Commit(small, first, l, []int{3})
	expect(t, "rows that are dropped", all(got, e), all(costs.Cost{Freed: 8, Removed: 2, Dropped: 2}, 0))
	small.Arena = 5
	got, e = costs.Commit(small, first, l, []int{0, 1})
	expect(t, "Commit", all(got, e), all(costs.Cost{}, api.ErrArena))
	got, e = costs.Commit(c, first, l, []int{1, 0})
	expect(t, "Commit", all(got, e), all(costs.Cost{}, api.ErrArg))
	got, e = costs.Commit(api.Config{}, first, l, []int{1, 0})
	expect(t, "Commit", all(got, e), all(costs.Cost{}, api.ErrConfig))
	got, e = costs.Commit(c, holds.State{}, l, []int{1, 0})
	expect(t, "Commit", all(got, e), all(costs.Cost{}, api.ErrState))
}

func TestP40_4RowsLive(t *testing.T) {
	expect(t, "Rows", all(costs.Rows(config(), 25)), all(27, 0))
	expect(t, "Live", all(costs.Live(config(), 25)), all(1857, 0))
	expect(t, "Rows", all(costs.Rows(rich(), 25)), all(7+2+2, 0))
	expect(t, "Live", all(costs.Live(rich(), 25)), all((11+3)*8+1, 0))
	expect(t, "Live", all(costs.Live(config(), api.MaxView)), all((api.MaxView+4)*64+1, 0))
	for _, view := range []int64{0, -1, api.MaxView + 1, math.MaxInt64} {
		expect(t, "Rows", all(costs.Rows(config(), view)), all(0, api.ErrArg))
		expect(t, "Live", all(costs.Live(config(), view)), all(0, api.ErrArg))
	}
	expect(t, "Rows", all(costs.Rows(api.Config{}, 0)), all(0, api.ErrConfig))
	expect(t, "Live", all(costs.Live(api.Config{}, 0)), all(0, api.ErrConfig))
}

func TestP40_5Consequences(t *testing.T) {
	seed := uint32(89)
	next := func(n int) int {
		seed = seed*1664525 + 1013904223
		return int(seed>>8) % n
	}
	c := rich()
	g := engine(t, c)
	m, _ := models.New(c)
	for i := range 800 {
		n := len(m.List().Entries)
		at := next(n + 1)
		item := api.Item{Key: uint64(i + 1), Text: fmt.Sprint(next(3)), Marks: []string{"u", "v", "w"}[:next(4)], Type: uint8(next(4) / 3)}
		x := api.Event{Kind: api.Batch}
		switch next(8) {
		case 0, 1:
			x.Notices = []api.Notice{{Kind: api.Insert, At: at, Items: []api.Item{item}}}
		case 2:
			x.Notices = []api.Notice{{Kind: api.Move, At: at, Count: min(1, n-at), To: next(max(1, n))}}
		case 3:
			x.Notices = []api.Notice{{Kind: api.Remove, At: at, Count: min(next(2), n-at)}}
		case 4:
			if at < n {
				item.Key = m.List().Entries[at].Item.Key
				x.Notices = []api.Notice{{Kind: api.Change, At: at, Items: []api.Item{item}}}
			}
		case 5:
			x = to(api.Trim, int64(next(2)))
		case 6:
			x = to(api.Resize, int64(1+next(50)))
		default:
			x = to(api.ScrollTo, int64(next(10*n+1)))
		}
		if n > 0 {
			x.Heights = []api.Height{{Key: m.List().Entries[next(n)].Item.Key, Size: int64(4 + next(20))}}
		}
		live := g.Dom().Counters().Live
		cost, e := costs.Of(g, x)
		after, f := m.Do(x)
		if e != f {
			t.Fatal(e, f)
		}
		if e != api.OK {
			continue
		}
		check(t, c, m, after, x, cost)
		bound, _ := costs.Live(c, g.View())
		rows, _ := costs.Rows(c, g.View())
		if now := g.Dom().Counters().Live; cost.Created-cost.Freed != now-live || int64(now) > bound || int64(len(g.Rows())) > rows || cost.Placed > len(g.Rows()) {
			t.Fatal("bounds", now, bound, cost)
		}
		if x.Kind == api.ScrollTo && slices.Equal(m.Attached(), after.Attached()) && !costs.Quiet(cost) {
			t.Fatal("scrolling is not quiet", cost)
		}
		m = after
	}
}

// check fails unless an event cost what its commit costs.
func check(t *testing.T, c api.Config, before, after models.Model, x api.Event, cost costs.Cost) {
	t.Helper()
	s := before.Holds()
	var gone costs.Cost
	if x.Kind == api.Trim {
		trimmed, _, _ := holds.Trim(c, s, int(x.To))
		for kind, pool := range s.Pools {
			for _, r := range pool[:len(pool)-len(trimmed.Pools[kind])] {
				gone = costs.Plus(gone, costs.Cost{Freed: nodes.Count(r.Tree), Dropped: 1})
			}
		}
		s = trimmed
	}
	want, e := costs.Commit(c, s, after.List(), after.Attached())
	want = costs.Plus(want, gone)
	want.Placed, want.Rounds = cost.Placed, after.Rounds()
	if e != api.OK || cost != want {
		t.Fatalf("%+v cost %+v, expected %+v (error %d)", x, cost, want, e)
	}
}
