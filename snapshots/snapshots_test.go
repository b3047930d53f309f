package snapshots_test

import (
	"fmt"
	"math"
	"slices"
	"strings"
	"testing"

	"paternoster/api"
	"paternoster/engines"
	"paternoster/models"
	"paternoster/nodes"
	"paternoster/renders"
	"paternoster/snapshots"
)

// expect fails unless two values are written alike.
func expect(t *testing.T, what string, got, want any) {
	t.Helper()
	if g, w := fmt.Sprintf("%v", got), fmt.Sprintf("%v", want); g != w {
		t.Errorf("%s: %s, expected %s", what, g, w)
	}
}

func all(l ...any) []any { return l }

// config has rows, and headers, whose keys are from 100 on.
func config() api.Config {
	row := api.Part{Kind: api.Element, Tag: "row", Parts: []api.Part{{Kind: api.Field}}}
	head := api.Part{Kind: api.Element, Tag: "head", Parts: []api.Part{{Kind: api.Number}, {Kind: api.Element, Tag: "b", Key: "k"}}}
	return api.Config{View: 25, Least: 1, Cap: 64, Arena: 100, Kinds: []api.Kind{{Template: row, Base: 10, Pool: 2}, {Template: head, Base: 6, Sticky: true, Pool: 1}}}
}

func insert(at int, keys ...uint64) api.Event {
	n := api.Notice{Kind: api.Insert, At: at}
	for _, key := range keys {
		n.Items = append(n.Items, api.Item{Key: key, Text: "x", Type: uint8(min(key/100, 1))})
	}
	return api.Event{Kind: api.Batch, Notices: []api.Notice{n}}
}

func to(kind uint8, x int64) api.Event { return api.Event{Kind: kind, To: x} }

// engine returns an engine behind events that have to be possible.
func engine(t *testing.T, l ...api.Event) *engines.Engine {
	t.Helper()
	g, e := engines.New(config())
	for _, x := range l {
		if e == api.OK {
			e = g.Do(x)
		}
	}
	if e != api.OK {
		t.Fatal(e)
	}
	return g
}

func TestP39_1LinesMeets(t *testing.T) {
	expect(t, "Lines", all(snapshots.Lines(engine(t))), all("[]", 0))
	g := engine(t, insert(0, 1, 2, 3, 4, 5), to(api.ScrollBy, 12))
	expect(t, "Lines", all(snapshots.Lines(g)), all("[{2 0 10 10 false 2} {3 0 20 10 false 2} {4 0 30 10 false 2}]", 0))
	g = engine(t, insert(0, 100, 1, 101, 2, 3), to(api.ScrollBy, 14))
	expect(t, "Lines", all(snapshots.Lines(g)), all("[{100 1 10 6 true 3} {1 0 6 10 false 2} {101 1 16 6 false 3} {2 0 22 10 false 2} {3 0 32 10 false 2}]", 0))
	other, _ := g.Dom().Element("other")
	g.Dom().Insert(g.Root(), other, api.Handle{})
	expect(t, "Lines with another child", all(snapshots.Lines(g)), all("[]", api.ErrState))
	expect(t, "Seen with another child", all(snapshots.Seen(g)), all(api.Slice{}, api.ErrState))
	for _, g := range []*engines.Engine{nil, {}} {
		expect(t, "Lines", all(snapshots.Lines(g)), all("[]", api.ErrNil))
		expect(t, "Seen", all(snapshots.Seen(g)), all(api.Slice{}, api.ErrNil))
	}
	for _, x := range []struct {
		top, size, s, v int64
		want            bool
	}{
		{10, 5, 14, 1, true}, {10, 5, 15, 1, false}, {10, 5, 0, 10, false}, {10, 5, 0, 11, true}, {math.MaxInt64 - 1, 9, math.MaxInt64 - 1, 5, true}, {math.MaxInt64, 9, math.MaxInt64, 5, false}, {math.MinInt64, -1, math.MinInt64, 5, false}, {-5, 6, 0, 1, true},
	} {
		expect(t, "Meets", snapshots.Meets(snapshots.Line{Top: x.top, Size: x.size}, x.s, x.v), x.want)
	}
}

func TestP39_2Seen(t *testing.T) {
	g := engine(t, insert(0, 100, 1, 2, 3, 4, 5), to(api.ScrollBy, 17))
	x, e := snapshots.Seen(g)
	text, _ := snapshots.Text(x)
	expect(t, "Seen", all(text, e), all("offset 17\nrow 2 -1 10 <row>\"x\"</row>\nrow 3 9 10 <row>\"x\"</row>\nrow 4 19 10 <row>\"x\"</row>\nhead 100 0 6 <head>\"100\"<b/></head>\n", 0))
	rows := g.Rows()
	g.Dom().Place(rows[1].Root, 100, 10, false)
	g.Dom().Place(rows[2].Root, 3, 10, true)
	x, _ = snapshots.Seen(g)
	expect(t, "Seen is what is in the DOM", all(len(x.Rows), x.Rows[0].Key, x.Head.Key), all(1, 4, 100))
	for range 17 {
		w, _ := g.Dom().Words("")
		g.Dom().Insert(rows[1].Root, w, api.Handle{})
	}
	expect(t, "Seen", all(snapshots.Seen(g)), all(api.Slice{}, api.ErrTree))
	l, e := snapshots.Lines(g)
	expect(t, "Lines", all(l[1].Nodes, e), all(19, 0))
}

// slice returns a slice with two rows and a head.
func slice() api.Slice {
	row := func(key uint64, top int64) api.Row {
		return api.Row{Key: key, Top: top, Size: 10, Tree: api.Node{Kind: api.Element, Tag: "a", Key: "k", Children: []api.Node{{Kind: api.Words, Text: "x"}}}}
	}
	return api.Slice{Offset: 7, Rows: []api.Row{row(1, -3), row(2, 7)}, Pinned: true, Head: row(9, -1)}
}

func TestP39_3Text(t *testing.T) {
	expect(t, "Text", all(snapshots.Text(slice())), all("offset 7\nrow 1 -3 10 <a:k>\"x\"</a>\nrow 2 7 10 <a:k>\"x\"</a>\nhead 9 -1 10 <a:k>\"x\"</a>\n", 0))
	expect(t, "Text", all(snapshots.Text(api.Slice{Offset: -5})), all("offset -5\n", 0))
	bad := slice()
	bad.Rows[1].Tree.Tag = ""
	loose := bad
	loose.Pinned = false
	head := slice()
	head.Head.Tree = api.Node{}
	long := slice()
	long.Rows = slices.Repeat(long.Rows, 25000)
	for _, x := range []struct {
		x api.Slice
		e api.Errno
	}{{loose, api.ErrArg}, {bad, api.ErrTree}, {head, api.ErrTree}, {api.Slice{Pinned: true}, api.ErrTree}, {api.Slice{Head: api.Row{Tree: api.Node{Key: "k"}}}, api.ErrArg}, {long, api.ErrLimit}} {
		s, e := snapshots.Text(x.x)
		expect(t, "Text", all(s, e), all("", x.e))
	}
}

func TestP39_4Differ(t *testing.T) {
	for i, x := range []struct {
		change func(x *api.Slice)
		want   string
	}{
		{func(x *api.Slice) {}, ""}, {func(x *api.Slice) { x.Offset, x.Rows = 8, nil }, "offset"}, {func(x *api.Slice) { x.Rows, x.Pinned = x.Rows[:1], false }, "rows"}, {func(x *api.Slice) { x.Rows[1].Key, x.Rows[1].Top = 5, 5 }, "key"},
		{func(x *api.Slice) { x.Rows[1].Key, x.Rows[0].Size = 5, 5 }, "size"}, {func(x *api.Slice) { x.Rows[1].Top, x.Rows[1].Size = 5, 5 }, "top"}, {func(x *api.Slice) { x.Rows[1].Tree.Key, x.Pinned = "", false }, "tree"},
		{func(x *api.Slice) { x.Pinned, x.Head.Key = false, 5 }, "pinned"}, {func(x *api.Slice) { x.Head.Tree.Children = nil }, "head"}, {func(x *api.Slice) { x.Head.Top = 5 }, "head"},
	} {
		a, b := slice(), slice()
		x.change(&b)
		expect(t, fmt.Sprint("Differ ", i), all(snapshots.Differ(a, b), snapshots.Differ(b, a)), all(x.want, x.want))
	}
	g := engine(t, insert(0, 1, 2, 3, 4, 5), to(api.ScrollBy, 12))
	a, _ := snapshots.Seen(g)
	b, _ := snapshots.Seen(g)
	b.Rows[1].Size++
	expect(t, "Differ", snapshots.Differ(a, b), "size")
	loop := api.Node{Children: []api.Node{{Tag: "\n"}}}
	expect(t, "Differ", snapshots.Differ(api.Slice{Head: api.Row{Tree: loop}}, api.Slice{Head: api.Row{Tree: loop}}), "")
}

func TestP39_5Consequences(t *testing.T) {
	seed := uint32(83)
	next := func(n int) int {
		seed = seed*1664525 + 1013904223
		return int(seed>>8) % n
	}
	g := engine(t)
	m, _ := models.New(config())
	for i := range 600 {
		var x api.Event
		switch next(5) {
		case 0:
			x = insert(next(len(m.List().Entries)+1), uint64(1+i+100000*next(2)))
		case 1:
			x = to(api.ScrollTo, int64(next(400)))
		case 2:
			x = to(api.Resize, int64(1+next(50)))
		case 3:
			x = to(api.ScrollBy, int64(next(60)-30))
		default:
			x = api.Event{Kind: api.Batch, Notices: []api.Notice{{Kind: api.Remove, At: next(len(m.List().Entries) + 1), Count: next(2)}}}
		}
		if l := m.List().Entries; len(l) > 0 {
			x.Heights = []api.Height{{Key: l[next(len(l))].Item.Key, Size: int64(1 + next(20))}}
		}
		e := g.Do(x)
		after, f := m.Do(x)
		m = after
		seen, _ := snapshots.Seen(g)
		if e != f || !renders.Same(seen, m.Slice()) {
			t.Fatal("something else is seen", e, f, snapshots.Differ(seen, m.Slice()))
		}
		lines, _ := snapshots.Lines(g)
		for i := 1; i < len(lines); i++ {
			if a, b := lines[i-1], lines[i]; !a.Pinned && !b.Pinned && a.Top+a.Size != b.Top && !lines[0].Pinned {
				t.Fatal("a gap", lines)
			}
		}
		text, _ := snapshots.Text(seen)
		if got := read(t, text); snapshots.Differ(got, seen) != "" {
			t.Fatal("the text does not tell everything", text)
		}
	}
}

// read returns the slice with a text.
func read(t *testing.T, text string) api.Slice {
	t.Helper()
	var x api.Slice
	for _, line := range strings.Split(strings.TrimSuffix(text, "\n"), "\n") {
		fields := strings.SplitN(line, " ", 5)
		if fields[0] == "offset" {
			fmt.Sscan(fields[1], &x.Offset)
			continue
		}
		var r api.Row
		fmt.Sscan(strings.Join(fields[1:4], " "), &r.Key, &r.Top, &r.Size)
		r.Tree, _, _ = nodes.Parse(fields[4])
		if fields[0] == "head" {
			x.Pinned, x.Head = true, r
		} else {
			x.Rows = append(x.Rows, r)
		}
	}
	return x
}
