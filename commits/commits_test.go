package commits_test

import (
	"fmt"
	"math"
	"slices"
	"testing"

	"paternoster/api"
	"paternoster/commits"
	"paternoster/doms"
	"paternoster/holds"
	"paternoster/lists"
	"paternoster/mounts"
	"paternoster/nodes"
	"paternoster/pools"
	"paternoster/rebinds"
)

// expect fails unless two values are written alike.
func expect(t *testing.T, what string, got, want any) {
	t.Helper()
	if g, w := fmt.Sprintf("%v", got), fmt.Sprintf("%v", want); g != w {
		t.Errorf("%s: %s, expected %s", what, g, w)
	}
}

func all(l ...any) []any { return l }

// kinds returns rows with a text and Pool 1, and rows with marks and Pool 2.
func kinds() []api.Kind {
	row := api.Part{Kind: api.Element, Tag: "row", Parts: []api.Part{{Kind: api.Field}}}
	marks := api.Part{Kind: api.Element, Tag: "marks", Parts: []api.Part{{Kind: api.Each, Tag: "m"}}}
	return []api.Kind{{Template: row, Base: 10, Pool: 1}, {Template: marks, Base: 10, Pool: 2}}
}

func stage(t *testing.T, flaw uint8) *commits.Stage {
	t.Helper()
	s, e := commits.New(kinds(), 8, flaw)
	if e != api.OK {
		t.Fatal(e)
	}
	return s
}

// goals returns goals for keys, below each other; those above 100 are of type 1.
func goals(keys ...uint64) []commits.Goal {
	var l []commits.Goal
	for i, key := range keys {
		l = append(l, commits.Goal{Item: api.Item{Key: key, Type: uint8(min(key/100, 1)), Text: fmt.Sprint(key)}, Top: int64(i * 10), Size: 10})
	}
	return l
}

// marked returns a goal with marks.
func marked(key uint64, marks ...string) commits.Goal {
	return commits.Goal{Item: api.Item{Key: key, Type: 1, Marks: marks}}
}

// commit commits goals, which has to be possible, and checks what is there then.
func commit(t *testing.T, s *commits.Stage, l []commits.Goal) commits.Counts {
	t.Helper()
	c, e := s.Commit(l)
	if e != api.OK {
		t.Fatal(e)
	}
	v, _ := s.Dom().Look(s.List())
	rows := s.Rows()
	if len(rows) != len(l) || len(v.Children) != len(l) {
		t.Fatal("the rows", len(rows), len(v.Children))
	}
	roots := []api.Handle{s.List()}
	pooled, _ := pools.All(s.Pools())
	live := 1
	for _, r := range pooled {
		roots = append(roots, r.Root)
		live += nodes.Count(r.Tree)
	}
	for i, r := range rows {
		x, _ := s.Dom().Look(r.Root)
		is, _ := mounts.Is(s.Dom(), r.Root, r.Tree)
		if r.Root != v.Children[i] || r.Key != l[i].Item.Key || r.Type != l[i].Item.Type || !is || x.Top != l[i].Top || x.Size != l[i].Size || x.Pinned != l[i].Pinned {
			t.Fatal("the row", i, r, x)
		}
		live += nodes.Count(r.Tree)
	}
	got := s.Dom().Roots()
	slices.SortFunc(roots, func(a, b api.Handle) int { return int(a.Index) - int(b.Index) })
	if !slices.Equal(got, roots) || s.Dom().Counters().Live != live {
		t.Fatal("other nodes", got, roots, live)
	}
	return c
}

func keys(s *commits.Stage) string {
	out := fmt.Sprint()
	for _, r := range s.Rows() {
		out += fmt.Sprint(r.Key, " ")
	}
	for _, l := range s.Pools().Rows {
		out += "| "
		for _, r := range l {
			out += fmt.Sprint(r.Key, " ")
		}
	}
	return out
}

func TestP37_1New(t *testing.T) {
	k := kinds()
	s, e := commits.New(k, 8, 0)
	k[0].Template.Tag = "changed"
	v, _ := s.Dom().Look(s.List())
	expect(t, "New", all(e, keys(s), v.Tag, v.Parent, s.Dom().Counters(), s.Pools().Bounds), all(0, "| | ", "list", api.Handle{}, doms.Counters{Live: 1, Created: 1}, []int{1, 2}))
	commit(t, s, goals(1))
	expect(t, "the kinds are not kept", s.Rows()[0].Tree.Tag, "row")
	expect(t, "the bounds with the flaw 3", stage(t, 3).Pools().Bounds, []int{api.MaxArena, api.MaxArena})
	for _, x := range []struct {
		change func(k []api.Kind)
		most   int
	}{{func(k []api.Kind) {}, 0}, {func(k []api.Kind) {}, 65}, {func(k []api.Kind) { k[0].Pool = -1 }, 8}, {func(k []api.Kind) { k[1].Pool = 17 }, 8}, {func(k []api.Kind) { k[1].Base = 0 }, 8}, {func(k []api.Kind) { k[1].Template.Tag = "" }, 8}} {
		k := kinds()
		x.change(k)
		s, e := commits.New(k, x.most, 0)
		expect(t, "New", all(s == nil, e), all(true, api.ErrConfig))
	}
}

func TestP37_2Commit(t *testing.T) {
	s := stage(t, 0)
	expect(t, "Commit", all(commit(t, s, goals(1, 2)), s.Dom().Counters().Live), all(commits.Counts{Made: 2}, 5))
	expect(t, "Commit", all(commit(t, s, goals(2, 3)), s.Dom().Counters().Live, keys(s)), all(commits.Counts{Stayed: 1, Rebound: 1}, 5, "2 3 | | "))
	expect(t, "Commit", all(commit(t, s, nil), s.Dom().Counters().Live, keys(s)), all(commits.Counts{Dropped: 1}, 3, "| 2 | "))
	expect(t, "Commit", all(commit(t, s, goals(4, 100, 5)), keys(s)), all(commits.Counts{Rebound: 1, Made: 2}, "4 100 5 | | "))
	expect(t, "Commit", all(commit(t, s, goals(5, 100, 4)), keys(s)), all(commits.Counts{Stayed: 3, Moved: 2}, "5 100 4 | | "))
	other := goals(5)
	other[0].Item.Type = 1
	expect(t, "another type", all(commit(t, s, other), keys(s)), all(commits.Counts{Rebound: 1, Dropped: 1}, "5 | 5 | "))
	placed := s.Dom().Counters().Placed
	other[0].Pinned = true
	commit(t, s, other)
	expect(t, "Placed", s.Dom().Counters().Placed, placed+1)
	before, rows := s.Dom().Copy(), keys(s)
	for _, x := range []struct {
		l []commits.Goal
		e api.Errno
	}{
		{make([]commits.Goal, api.MaxItems+1), api.ErrLimit}, {goals(1, 0), api.ErrItem}, {goals(1, 1), api.ErrTwice}, {[]commits.Goal{marked(1, "a", "a"), {}}, api.ErrTree}, {[]commits.Goal{marked(1, "a", "b", "c", "d")}, api.ErrTree},
		{[]commits.Goal{marked(1), {Item: api.Item{Key: 1, Type: 2}}}, api.ErrItem}, {[]commits.Goal{marked(1), marked(1, "a", "a")}, api.ErrTwice},
	} {
		c, e := s.Commit(x.l)
		expect(t, "Commit", all(c, e, doms.Same(before, s.Dom()), keys(s)), all(commits.Counts{}, x.e, true, rows))
	}
}

func TestP37_2Flaws(t *testing.T) {
	s := stage(t, 1)
	commit(t, s, []commits.Goal{marked(1, "a")})
	commit(t, s, []commits.Goal{marked(2, "b")})
	text, _ := nodes.Text(s.Rows()[0].Tree)
	expect(t, "the flaw 1", text, `<marks><m:b>"b"</m><m:a>"a"</m></marks>`)
	commit(t, s, []commits.Goal{marked(2, "b")})
	text, _ = nodes.Text(s.Rows()[0].Tree)
	expect(t, "a row that stays is rebound without the flaw", text, `<marks><m:b>"b"</m></marks>`)
	s = stage(t, 3)
	commit(t, s, goals(1, 2, 3))
	expect(t, "the flaw 3", all(commit(t, s, nil), keys(s)), all(commits.Counts{}, "| 1 2 3 | "))
}

func TestP37_3Trim(t *testing.T) {
	s := stage(t, 0)
	commit(t, s, goals(1, 100, 101, 102))
	commit(t, s, nil)
	expect(t, "Trim", all(s.Trim(1)), all(1, 0))
	expect(t, "Trim", all(keys(s), s.Dom().Counters().Live), all("| 1 | 101 ", 4))
	expect(t, "Trim", all(s.Trim(-1)), all(0, api.ErrRange))
	expect(t, "Trim", all(s.Trim(math.MaxInt)), all(0, 0))
	expect(t, "Trim", all(s.Trim(0)), all(2, 0))
	expect(t, "Trim", all(keys(s), s.Dom().Counters().Live), all("| | ", 1))
}

func TestP37_4Do(t *testing.T) {
	s := stage(t, 0)
	commit(t, s, goals(1, 100, 2))
	commit(t, s, goals(3, 2))
	before, rows := s.Dom().Copy(), keys(s)
	change := func(e api.Errno) func() api.Errno {
		return func() api.Errno {
			s.Commit(goals(7, 8, 9))
			s.Trim(0)
			s.Do(func() api.Errno {
				s.Commit(nil)
				return api.OK
			})
			return e
		}
	}
	expect(t, "Do", all(s.Do(change(api.ErrFuel)), doms.Same(before, s.Dom()), keys(s)), all(api.ErrFuel, true, rows))
	func() {
		defer func() { expect(t, "the panic goes on", recover(), "stop") }()
		s.Do(func() api.Errno {
			change(api.OK)()
			panic("stop")
		})
	}()
	expect(t, "Do", all(doms.Same(before, s.Dom()), keys(s), s.Dom().Undo(0), s.Do(nil)), all(true, rows, api.ErrState, api.ErrArg))
	inner := s.Do(func() api.Errno {
		s.Commit(goals(5))
		expect(t, "an inner one", s.Do(func() api.Errno {
			s.Commit(goals(6))
			return api.ErrNone
		}), api.ErrNone)
		return api.OK
	})
	expect(t, "Do", all(inner, keys(s)[:2]), all(0, "5 "))
	commit(t, s, goals(5, 6))
}

func TestP37_5Parts(t *testing.T) {
	s := stage(t, 0)
	commit(t, s, goals(1, 2, 100))
	commit(t, s, goals(2))
	rows, p := s.Rows(), s.Pools()
	rows[0].Tree.Children[0].Text, p.Rows[0][0].Tree.Tag, p.Bounds[0], p.Rows[1] = "new", "new", 9, nil
	expect(t, "new memory", all(s.Rows()[0].Tree.Children[0].Text, s.Pools().Rows[0][0].Tree.Tag, s.Pools().Bounds, keys(s)), all("2", "row", []int{1, 2}, "2 | 1 | 100 "))
	for _, s := range []*commits.Stage{nil, {}} {
		c, e := s.Commit(nil)
		n, f := s.Trim(0)
		expect(t, "nil", all(c, e, n, f, s.Do(nil), s.Dom() == nil, s.List(), len(s.Rows()), s.Pools()), all(commits.Counts{}, 2, 0, 2, 2, true, api.Handle{}, 0, pools.Pools[rebinds.Row]{}))
	}
}

func TestP37_6Consequences(t *testing.T) {
	seed := uint32(73)
	next := func(n int) int {
		seed = seed*1664525 + 1013904223
		return int(seed>>8) % n
	}
	config := api.Config{Cap: 8, Arena: api.MaxArena, Kinds: kinds()}
	s := stage(t, 0)
	state, _ := holds.Empty(config)
	for range 1500 {
		var l []commits.Goal
		var list lists.List
		var attached []int
		for _, key := range []uint64{1, 2, 3, 4, 5, 6} {
			if next(2) == 0 {
				g := commits.Goal{Item: api.Item{Key: key, Type: uint8(next(5) / 4), Text: fmt.Sprint(next(9)), Marks: []string{"a", "b", "c"}[:next(4)]}, Top: int64(next(3)), Size: 5, Pinned: next(9) == 0}
				l = slices.Insert(l, next(len(l)+1), g)
			}
		}
		for i, g := range l {
			list.Entries = append(list.Entries, lists.Entry{Item: g.Item, Size: 10})
			attached = append(attached, i)
		}
		roots := map[string]api.Handle{}
		for _, r := range s.Rows() {
			roots[fmt.Sprint(r.Key, r.Type)] = r.Root
		}
		c := commit(t, s, l)
		var counts holds.Counts
		var e api.Errno
		if state, counts, e = holds.Commit(config, state, list, attached); e != api.OK {
			t.Fatal(e)
		}
		stayed := 0
		for i, r := range s.Rows() {
			if root, there := roots[fmt.Sprint(r.Key, r.Type)]; there {
				stayed++
				if root != r.Root {
					t.Fatal("a row that stayed has another handle")
				}
			}
			if !nodes.Same(r.Tree, state.Rows[i].Tree) {
				t.Fatal("another tree")
			}
		}
		if c.Rebound != counts.Rebound || c.Made != counts.Made || c.Dropped != counts.Dropped || c.Stayed != stayed || s.Dom().Counters().Live != counts.Live {
			t.Fatal(c, counts)
		}
		for kind, rows := range s.Pools().Rows {
			for i, r := range rows {
				if len(rows) != len(state.Pools[kind]) || r.Key != state.Pools[kind][i].Key || !nodes.Same(r.Tree, state.Pools[kind][i].Tree) {
					t.Fatal("another pool")
				}
			}
		}
		before := s.Dom().Copy()
		if c := commit(t, s, l); c != (commits.Counts{Stayed: len(l)}) || !doms.Same(before, s.Dom()) {
			t.Fatal("committing again changes something", c)
		}
	}
}
