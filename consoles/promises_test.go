package consoles_test

// The promises of the whole program, P0.1 to P0.6, over long lists.

import (
	"fmt"
	"slices"
	"testing"

	"paternoster/anchors"
	"paternoster/api"
	"paternoster/consoles"
	"paternoster/costs"
	"paternoster/doms"
	"paternoster/engines"
	"paternoster/lists"
	"paternoster/models"
	"paternoster/mutants"
	"paternoster/nodes"
	"paternoster/rebinds"
	"paternoster/renders"
	"paternoster/snapshots"
)

// whole is a configuration with rows that have marks, and headers.
func whole() api.Config {
	row := api.Part{Kind: api.Element, Tag: "row", Slots: []api.Slot{{Name: "n", From: 3}}, Parts: []api.Part{{Kind: api.Field}, {Kind: api.Each, Tag: "m"}}}
	head := api.Part{Kind: api.Element, Tag: "head", Parts: []api.Part{{Kind: api.Number}}}
	return api.Config{View: 90, Over: 2, Least: 4, Cap: 8, Arena: 90, Kinds: []api.Kind{{Template: row, Base: 10, Pool: 5}, {Template: head, Base: 6, Sticky: true, Pool: 1}}}
}

// pair is an engine and a model behind the same events.
type pair struct {
	g *engines.Engine
	m models.Model
}

// fate is what was there ahead of an event, and what came of it.
type fate struct {
	x    api.Event
	e    api.Errno
	old  models.Model
	rows []rebinds.Row
	dom  *doms.Dom
	now  pair
	cost costs.Cost
}

func numbers(seed uint32) func(n int) int {
	return func(n int) int {
		seed = seed*1664525 + 1013904223
		return int(seed>>8) % n
	}
}

// live lets an engine and a model live through events over a list of n items, and
// looks at each of them.
func live(t *testing.T, n int, look func(f fate)) {
	t.Helper()
	next := numbers(uint32(n))
	c := whole()
	g, e := engines.New(c)
	m, f := models.New(c)
	if e|f != 0 {
		t.Fatal(e, f)
	}
	p, key := pair{g, m}, 0
	items := func(many int) []api.Item {
		var l []api.Item
		for range many {
			key++
			l = append(l, api.Item{Key: uint64(key), Type: uint8(next(8) / 7), Text: fmt.Sprint(next(5)), Marks: []string{"a", "b", "c"}[:next(4)]})
		}
		return l
	}
	for i := range 150 {
		l := p.m.List()
		many := len(l.Entries)
		at := next(many + 1)
		x := api.Event{Kind: api.Batch}
		switch kind := next(12); {
		case i == 0:
			x.Notices = []api.Notice{{Kind: api.Insert, Items: items(n)}}
		case kind < 2:
			x.Notices = []api.Notice{{Kind: api.Insert, At: at, Items: items(next(4))}}
		case kind < 4:
			x.Notices = []api.Notice{{Kind: api.Remove, At: at, Count: min(next(5), many-at)}}
		case kind == 4:
			count := min(next(30), many-at)
			x.Notices = []api.Notice{{Kind: api.Move, At: at, Count: count, To: next(many - count + 1)}}
		case kind == 5 && at < many:
			item := l.Entries[at].Item
			item.Text, item.Marks = "new", []string{"z"}
			x.Notices = []api.Notice{{Kind: api.Change, At: at, Items: []api.Item{item}}}
		case kind == 6:
			x = api.Event{Kind: api.ScrollTo, To: int64(next(12 * (many + 1)))}
		case kind < 9:
			x = api.Event{Kind: api.ScrollBy, To: int64(next(140) - 70)}
		case kind == 9:
			x = api.Event{Kind: api.Resize, To: int64(1 + next(160))}
		case kind == 10:
			x = api.Event{Kind: api.Reveal, Key: uint64(1 + next(key+1))}
		default:
			x = api.Event{Kind: api.Trim, To: int64(next(6))}
		}
		for _, k := range []int{0, 1, 2, 3, 4, 5, 6, 7} {
			if k*many/8 < many {
				x.Heights = append(x.Heights, api.Height{Key: l.Entries[k*many/8+next(max(1, many/8))].Item.Key, Size: int64(4 + next(40))})
			}
		}
		slices.SortFunc(x.Heights, func(a, b api.Height) int { return int(a.Key) - int(b.Key) })
		x.Heights = slices.CompactFunc(x.Heights, func(a, b api.Height) bool { return a.Key == b.Key })
		f := fate{x: x, old: p.m, rows: p.g.Rows(), dom: p.g.Dom().Copy()}
		f.cost, f.e = costs.Of(p.g, x)
		after, want := p.m.Do(x)
		if f.e != want {
			t.Fatalf("P0.4: the engine answers %d, the model %d", f.e, want)
		}
		p.m = after
		f.now = p
		look(f)
	}
}

func TestP0_1Slice(t *testing.T) {
	for _, n := range []int{0, 7, 60, 300} {
		live(t, n, func(f fate) {
			g, l := f.now.g, f.now.m.List()
			rules := lists.Rules{Kinds: whole().Kinds, Cap: whole().Cap}
			full, e := renders.Full(rules, l)
			seen, h := snapshots.Seen(g)
			if e|h != 0 {
				t.Fatal(e, h)
			}
			var want []api.Row
			for i, row := range full {
				if row.Top < g.Offset()+g.View() && row.Top+row.Size > g.Offset() {
					if !l.Entries[i].Known {
						t.Fatal("a row that is seen was not measured")
					}
					if !seen.Pinned || row.Key != seen.Head.Key {
						row.Top -= g.Offset()
						want = append(want, row)
					}
				}
			}
			slice, _ := renders.Slice(rules, l, g.Offset(), g.View())
			if word := snapshots.Differ(seen, api.Slice{Offset: g.Offset(), Rows: want, Pinned: slice.Pinned, Head: slice.Head}); word != "" {
				t.Fatal("what is seen is not the slice of the full render:", word)
			}
		})
	}
}

func TestP0_2Bounds(t *testing.T) {
	refused := 0
	for _, n := range []int{5, 100, 1000} {
		live(t, n, func(f fate) {
			g, c := f.now.g, whole()
			pooled := 0
			for i, rows := range g.Pools().Rows {
				pooled += len(rows)
				if len(rows) > c.Kinds[i].Pool {
					t.Fatal("too many pooled rows")
				}
			}
			rows := len(g.Rows())
			if int64(rows) > (g.View()+c.Least-1)/c.Least+int64(2*c.Over+2) || g.Dom().Counters().Live > (rows+pooled)*c.Cap+1 || g.Dom().Counters().Live > c.Arena {
				t.Fatal("too many rows, or nodes", rows, g.Dom().Counters().Live)
			}
			if f.e == api.ErrArena {
				refused++
			}
		})
	}
	if refused == 0 {
		t.Error("no event was refused with ErrArena")
	}
}

func TestP0_3Anchor(t *testing.T) {
	kept, replaced := 0, 0
	for _, n := range []int{5, 60, 250} {
		live(t, n, func(f fate) {
			if f.e != api.OK || f.x.Kind <= api.Reveal {
				return
			}
			before, now := f.old.List(), f.now.m.List()
			a, _ := anchors.Of(before, f.old.Offset())
			b := anchors.After(before, now, a)
			s, end := f.now.g.Offset(), max(0, lists.Total(now)-f.now.g.View())
			at, found := lists.Find(now, b.Key)
			if !found {
				return
			}
			top := lists.Total(lists.List{Entries: now.Entries[:at]})
			if s != min(top+b.Delta, end) {
				t.Fatal("the anchor is not where it was", a, b, top, s)
			}
			if a == b {
				kept++
			} else if a.Key > 0 {
				replaced++
				from, _ := lists.Find(before, a.Key)
				first := slices.IndexFunc(before.Entries[from:], func(x lists.Entry) bool {
					_, there := lists.Find(now, x.Item.Key)
					return there
				})
				if first >= 0 && before.Entries[from+first].Item.Key != b.Key {
					t.Fatal("another row came to the top")
				}
			}
		})
	}
	if kept < 50 || replaced < 3 {
		t.Error("too few anchors", kept, replaced)
	}
}

func TestP0_4Answers(t *testing.T) {
	for _, n := range []int{5, 60, 250} {
		live(t, n, func(f fate) {
			if f.e != api.OK && (!doms.Same(f.dom, f.now.g.Dom()) || !lists.Same(f.old.List(), f.now.g.List()) || f.old.Offset() != f.now.g.Offset() || f.old.View() != f.now.g.View()) {
				t.Fatal("a refused event changes something", f.e)
			}
			unknown := 0
			for _, x := range f.old.List().Entries {
				if !x.Known {
					unknown++
				}
			}
			for _, notice := range f.x.Notices {
				unknown += len(notice.Items)
			}
			if f.e == api.OK && f.now.g.Counts().Rounds > unknown {
				t.Fatal("too many rounds")
			}
		})
	}
}

func TestP0_5Reuse(t *testing.T) {
	quiet := 0
	for _, n := range []int{20, 250} {
		live(t, n, func(f fate) {
			if f.e != api.OK {
				return
			}
			handles := map[string]api.Handle{}
			var same []string
			for _, r := range f.rows {
				handles[fmt.Sprint(r.Key, " ", r.Type)] = r.Root
				same = append(same, fmt.Sprint(r.Key, " ", r.Type))
			}
			var now []string
			for i, r := range f.now.g.Rows() {
				known := fmt.Sprint(r.Key, " ", r.Type)
				now = append(now, known)
				if root, there := handles[known]; there && root != r.Root {
					t.Fatal("a row that stays has another handle")
				}
				tree, e := f.now.g.Dom().Tree(r.Root)
				if e != api.OK || !nodes.Same(tree, nodes.Strip(f.now.m.Holds().Rows[i].Tree)) {
					t.Fatal("a row is not equal to a fresh one")
				}
			}
			if f.x.Kind <= api.Reveal && slices.Equal(same, now) {
				quiet++
				if !costs.Quiet(f.cost) {
					t.Fatal("scrolling is not quiet", f.cost)
				}
			}
		})
	}
	if quiet < 10 {
		t.Error("too little scrolling that leaves the rows as they are", quiet)
	}
}

func TestP0_6Flaws(t *testing.T) {
	for flaw := uint8(1); flaw <= mutants.Flaws; flaw++ {
		c := console(t, fmt.Sprint("mutant ", flaw))
		talk(t, c, say{"compare", "same"}, say{"audit", "none"})
		s := c.Script()
		if _, e := mutants.Tells(s, flaw); e != api.OK {
			t.Error("the script does not tell the flaw", flaw)
		}
		if _, e := mutants.Tells(s, 0); e != api.ErrNone {
			t.Error("the script tells an engine without a flaw", flaw)
		}
	}
}

// TestExamples are the examples of the document, as far as no layer has them.
func TestExamples(t *testing.T) {
	c := consoles.New()
	talk(t, c, []say{
		{"pool 0 1", "ok"}, {"insert 0 0 1 2 3 4 5", "0 0"}, {"rows", "1 2 3"}, {"by 20", "1 0"}, {"heights 4 40", "1 0"}, {"offset", "20"}, {"rows", "3 4"}, {"by 1000", "2 0"}, {"offset", "55"}, {"rows", "4 5"}, {"remove 3 2", "3 0"}, {"offset", "5"}, {"rows", "1 2 3"},
		{"new", "ok"}, {"arena 4", "ok"}, {"insert 0 0 1 2", "0 15"}, {"arena 5", "ok"}, {"answers", "0"},
		{"new", "ok"}, {"flaw 3", "ok"}, {"pool 0 1", "ok"}, {"insert 0 0 1 2", "0 0"}, {"reset 0", "1 0"}, {"pools", "2 0"}, {"audit", "1: 6"},
	}...)
}
