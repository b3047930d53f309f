package holds_test

import (
	"fmt"
	"math"
	"strings"
	"testing"

	"paternoster/api"
	"paternoster/holds"
	"paternoster/lists"
	"paternoster/nodes"
)

// expect fails unless two values are written alike.
func expect(t *testing.T, what string, got, want any) {
	t.Helper()
	if g, w := fmt.Sprintf("%v", got), fmt.Sprintf("%v", want); g != w {
		t.Errorf("%s: %s, expected %s", what, g, w)
	}
}

func all(l ...any) []any { return l }

// config returns two kinds with Pool 1 and 0, and one with marks and Pool 2.
func config() api.Config {
	part := api.Part{Kind: api.Element, Tag: "a"}
	marks := api.Part{Kind: api.Element, Tag: "m", Parts: []api.Part{{Kind: api.Each, Tag: "i"}}}
	return api.Config{Cap: 5, Arena: 100, Kinds: []api.Kind{{Template: part, Base: 10, Pool: 1}, {Template: part, Base: 10}, {Template: marks, Base: 10, Pool: 2}}}
}

func rules() lists.Rules { return lists.Rules{Kinds: config().Kinds, Cap: 5} }

// list returns entries; the type of each is written behind its key, and then marks.
func list(s string) lists.List {
	var l lists.List
	for _, x := range strings.Fields(s) {
		var key uint64
		var kind, marks int
		fmt.Sscanf(x, "%d:%d:%d", &key, &kind, &marks)
		l.Entries = append(l.Entries, lists.Entry{Item: api.Item{Key: key, Type: uint8(kind), Marks: []string{"u", "v", "w"}[:marks]}, Size: 10})
	}
	return l
}

func example() lists.List { return list("1:0 2:0 3:0 4:1") }

func empty(t *testing.T) holds.State {
	t.Helper()
	s, e := holds.Empty(config())
	if e != api.OK {
		t.Fatal(e)
	}
	return s
}

// written writes a state down.
func written(s holds.State) string {
	keys := func(l []holds.Held) string {
		var out []string
		for _, r := range l {
			out = append(out, fmt.Sprint(r.Key))
		}
		return strings.Join(out, ",")
	}
	out := keys(s.Rows)
	for _, pool := range s.Pools {
		out += "|" + keys(pool)
	}
	return out
}

// commit commits to a state, which has to be possible.
func commit(t *testing.T, s holds.State, l lists.List, attached ...int) (holds.State, holds.Counts) {
	t.Helper()
	got, counts, e := holds.Commit(config(), s, l, attached)
	if e != api.OK || holds.Check(config(), got) != api.OK || holds.Live(got) != counts.Live {
		t.Fatal(e)
	}
	return got, counts
}

func TestP32_1FitsCheckEmpty(t *testing.T) {
	expect(t, "Fits", all(holds.Fits(config()), written(empty(t)), holds.Check(config(), empty(t))), all(0, "|||", 0))
	for i, change := range []func(c *api.Config){
		func(c *api.Config) { c.Kinds = nil }, func(c *api.Config) { c.Cap = 0 }, func(c *api.Config) { c.Cap = 65 }, func(c *api.Config) { c.Arena = 0 }, func(c *api.Config) { c.Arena = api.MaxArena + 1 },
		func(c *api.Config) { c.Kinds[0].Pool = -1 }, func(c *api.Config) { c.Kinds[0].Pool = 17 }, func(c *api.Config) { c.Kinds[0].Base = 0 }, func(c *api.Config) { c.Kinds[1].Template.Tag = "" },
	} {
		c := config()
		change(&c)
		s, e := holds.Empty(c)
		_, _, f := holds.Commit(c, holds.State{}, lists.List{Entries: make([]lists.Entry, 2000)}, []int{-1})
		_, _, g := holds.Trim(c, holds.State{}, -1)
		expect(t, fmt.Sprint("Fits ", i), all(holds.Fits(c), holds.Check(c, holds.State{}), written(s), e, f, g), all(7, 7, "", 7, 7, 7))
	}
	for _, change := range []func(c *api.Config){func(c *api.Config) { c.Arena = 1 }, func(c *api.Config) { c.Arena = api.MaxArena }, func(c *api.Config) { c.Kinds[1].Pool = api.MaxPool }} {
		c := config()
		change(&c)
		expect(t, "Fits at the limits", holds.Fits(c), api.OK)
	}
	tree := api.Node{Kind: api.Element, Tag: "a"}
	row := func(key uint64, kind uint8, n api.Node) holds.Held { return holds.Held{Key: key, Type: kind, Tree: n} }
	with := func(kind int, l ...holds.Held) holds.State {
		s := empty(t)
		if kind < 0 {
			s.Rows = l
		} else {
			s.Pools[kind] = l
		}
		return s
	}
	big := api.Node{Kind: api.Element, Tag: "a", Children: make([]api.Node, 5)}
	for i := range big.Children {
		big.Children[i].Kind = api.Words
	}
	good, _ := commit(t, empty(t), list("1:0 2:1 3:2:2"), 0, 1, 2)
	full := empty(t)
	for i := range api.MaxItems {
		full.Rows = append(full.Rows, row(uint64(i+1), 0, tree))
	}
	expect(t, "Check at the limit", holds.Check(config(), full), api.OK)
	expect(t, "Check", all(holds.Check(config(), good), holds.Check(config(), with(0, row(7, 0, tree)))), all(0, 0))
	for i, s := range []holds.State{
		{}, {Pools: make([][]holds.Held, 4)}, with(-1, row(1, 0, tree), row(1, 0, tree)), with(-1, row(0, 0, tree)), with(-1, row(1, 3, tree)), with(-1, row(1, 2, tree)), with(-1, row(1, 0, api.Node{})), with(-1, row(1, 0, big)),
		with(0, row(1, 0, tree), row(2, 0, tree)), with(1, row(1, 1, tree)), with(0, row(1, 1, tree)), with(0, row(0, 0, tree)), with(0, row(1, 0, api.Node{Kind: api.Words})), with(-1, make([]holds.Held, api.MaxItems+1)...),
	} {
		_, _, e := holds.Commit(config(), s, lists.List{Entries: make([]lists.Entry, 2000)}, nil)
		_, _, f := holds.Trim(config(), s, -1)
		expect(t, fmt.Sprint("Check ", i), all(holds.Check(config(), s), e, f), all(api.ErrState, api.ErrState, api.ErrState))
	}
}

func TestP32_2Commit(t *testing.T) {
	first, counts := commit(t, empty(t), example(), 0, 1, 3)
	expect(t, "Commit", all(written(first), counts), all("1,2,4|||", holds.Counts{Made: 3, Live: 4}))
	second, counts := commit(t, first, example(), 2)
	expect(t, "Commit", all(written(second), counts), all("3|||", holds.Counts{Rebound: 1, Dropped: 2, Live: 2}))
	third, counts := commit(t, first, example())
	expect(t, "Commit", all(written(third), counts), all("|1||", holds.Counts{Dropped: 2, Live: 2}))
	other, counts := commit(t, first, list("1:2:1 2:0"), 0, 1)
	expect(t, "another type", all(written(other), counts), all("1,2|1||", holds.Counts{Made: 1, Dropped: 1, Live: 6}))
	top, _ := commit(t, empty(t), list("1:2 2:2:2 3:2:1"), 0, 1)
	top, _ = commit(t, top, list("1:2 2:2:2 3:2:1"))
	expect(t, "the top row is the last one", written(top), "|||1,2")
	top, counts = commit(t, top, list("1:2 2:2:2 3:2:1"), 2)
	expect(t, "the top row is taken", all(written(top), counts), all("3|||1", holds.Counts{Rebound: 1, Live: 5}))
	changed, counts := commit(t, top, list("3:2:2"), 0)
	expect(t, "staying rows get the tree", all(written(changed), counts, nodes.Count(changed.Rows[0].Tree)), all("3|||1", holds.Counts{Live: 7}, 5))
	c := config()
	c.Arena = 3
	twice := example()
	twice.Entries[1].Item.Key = 1
	for _, x := range []struct {
		l        lists.List
		attached []int
		e        api.Errno
	}{
		{example(), []int{1, 0}, api.ErrArg}, {example(), []int{4}, api.ErrArg}, {example(), []int{-1}, api.ErrArg}, {example(), []int{1, 1}, api.ErrArg}, {example(), []int{0, 1, 3}, api.ErrArena}, {twice, []int{9}, api.ErrTwice}, {example(), []int{0, 1}, 0},
	} {
		s, counts, e := holds.Commit(c, empty(t), x.l, x.attached)
		expect(t, "Commit", all(e, e == 0 || written(s)+fmt.Sprint(counts) == "{0 0 0 0}"), all(x.e, true))
	}
}

func TestP32_3Trim(t *testing.T) {
	s, _ := commit(t, empty(t), list("1:0 2:2 3:2 4:0"), 0, 1, 2, 3)
	s, _ = commit(t, s, list("5:1"), 0)
	expect(t, "Commit", written(s), "5|1||2,3")
	for n, want := range map[int]string{0: "5||| 3", 1: "5|1||3 1", 2: "5|1||2,3 0", 16: "5|1||2,3 0"} {
		got, dropped, e := holds.Trim(config(), s, n)
		expect(t, "Trim", fmt.Sprint(written(got), " ", dropped, e), want+" 0")
	}
	for _, n := range []int{-1, 17, math.MaxInt} {
		got, dropped, e := holds.Trim(config(), s, n)
		expect(t, "Trim", all(written(got), dropped, e), all("", 0, api.ErrRange))
	}
}

func TestP32_4LiveSame(t *testing.T) {
	make := func() holds.State {
		s, _ := commit(t, empty(t), list("1:0 2:2:2 3:2:1"), 0, 1, 2)
		s, _ = commit(t, s, list("1:0 2:2:2 3:2:1"), 1)
		return s
	}
	s := make()
	expect(t, "Live", all(holds.Live(s), holds.Live(holds.State{}), holds.Live(holds.State{Rows: []holds.Held{{Key: 1}}})), all(1+1+5+3, 1, 0))
	for i, change := range []func(s *holds.State){
		func(s *holds.State) { s.Rows = nil }, func(s *holds.State) { s.Rows[0].Key++ }, func(s *holds.State) { s.Rows[0].Type++ }, func(s *holds.State) { s.Rows[0].Tree.Children[0].Key = "" }, func(s *holds.State) { s.Pools = s.Pools[:2] },
		func(s *holds.State) { s.Pools[0][0].Key++ }, func(s *holds.State) { s.Pools[2] = nil }, func(s *holds.State) { s.Pools[0][0].Tree = api.Node{Kind: 9} },
	} {
		other := make()
		expect(t, "Same", holds.Same(s, other), true)
		change(&other)
		expect(t, fmt.Sprint("Same ", i), all(holds.Same(s, other), holds.Same(other, s), holds.Same(other, other)), all(false, false, true))
	}
	expect(t, "Same", holds.Same(holds.State{}, holds.State{Rows: []holds.Held{}, Pools: [][]holds.Held{}}), true)
}

func TestP32_5Consequences(t *testing.T) {
	seed := uint32(47)
	next := func(n int) int {
		seed = seed*1664525 + 1013904223
		return int(seed>>8) % n
	}
	s := empty(t)
	size := func(s holds.State) int { return len(s.Rows) + len(s.Pools[0]) + len(s.Pools[1]) + len(s.Pools[2]) }
	for range 2000 {
		var entries []string
		var attached []int
		for i := range 8 {
			entries = append(entries, fmt.Sprintf("%d:%d:%d", i+1, next(3), next(3)))
			if next(3) == 0 {
				attached = append(attached, i)
			}
		}
		l := list(strings.Join(entries, " "))
		before := written(s)
		got, counts := commit(t, s, l, attached...)
		if written(s) != before || size(s)+counts.Made != size(got)+counts.Dropped || counts.Live > 1+size(got)*5 {
			t.Fatal(before, written(got), counts)
		}
		again, counts := commit(t, got, l, attached...)
		if !holds.Same(got, again) || counts != (holds.Counts{Live: counts.Live}) {
			t.Fatal("committing again", counts)
		}
		for k, i := range attached {
			tree, _ := lists.Tree(rules(), l, i)
			if got.Rows[k].Key != l.Entries[i].Item.Key || !nodes.Same(got.Rows[k].Tree, tree) {
				t.Fatal("another row is attached")
			}
		}
		s = got
		if next(9) == 0 {
			trimmed, dropped, _ := holds.Trim(config(), s, next(2))
			if size(trimmed)+dropped != size(s) || holds.Check(config(), trimmed) != api.OK {
				t.Fatal("Trim")
			}
			s = trimmed
		}
	}
}
