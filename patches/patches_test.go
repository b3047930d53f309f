package patches_test

import (
	"fmt"
	"strings"
	"testing"

	"paternoster/api"
	"paternoster/diffs"
	"paternoster/doms"
	"paternoster/mounts"
	"paternoster/nodes"
	"paternoster/patches"
)

// expect fails unless two values are written alike.
func expect(t *testing.T, what string, got, want any) {
	t.Helper()
	if g, w := fmt.Sprint(got), fmt.Sprint(want); g != w {
		t.Errorf("%s: %s, expected %s", what, g, w)
	}
}

func all(l ...any) []any { return l }

func h(index, gen uint32) api.Handle { return api.Handle{Index: index, Gen: gen} }

// tree returns the tree with a text.
func tree(t *testing.T, s string) api.Node {
	t.Helper()
	n, at, e := nodes.Parse(s)
	if e != api.OK {
		t.Fatal(s, at, e)
	}
	return n
}

// text returns the text of the tree of a node of a DOM.
func text(d *doms.Dom, x api.Handle) string {
	n, _ := d.Tree(x)
	s, _ := nodes.Text(n)
	return s
}

// mounted returns a DOM with a tree.
func mounted(t *testing.T, s string) (*doms.Dom, api.Handle) {
	t.Helper()
	d := doms.New()
	x, e := mounts.Mount(d, tree(t, s))
	if e != api.OK {
		t.Fatal(e)
	}
	return d, x
}

const old = `<a><b:p/><b:q>"1"</b></a>`

func TestP20_1Carry(t *testing.T) {
	d, x := mounted(t, `<a x="1"><b/>"t"<c/></a>`)
	b, c := h(1, 1), h(3, 1)
	steps := []diffs.Step{
		{What: diffs.DropAttr, Name: "x"}, {What: diffs.SetAttr, Path: []int{0}, Name: "y", Value: "2"}, {What: diffs.SetText, Path: []int{1}, Value: "u"},
		{What: diffs.Move, At: 0, To: 2}, {What: diffs.Move, At: 1, To: 0}, {What: diffs.Mount, To: 1, Tree: tree(t, `<d:k>""</d>`)}, {What: diffs.Free, At: 2},
	}
	got, e := patches.Carry(d, x, steps)
	v, _ := d.Look(x)
	expect(t, "Carry", all(got, e, text(d, x), v.Children[0], v.Children[2]), all(x, 0, `<a><c/><d>""</d><b y="2"/></a>`, c, b))
	got, e = patches.Carry(d, c, []diffs.Step{{What: diffs.Replace, Tree: tree(t, `<e/>`)}, {What: diffs.SetAttr, Name: "n"}, {What: diffs.Replace, Tree: tree(t, `"f"`)}, {What: diffs.SetText, Value: "g"}})
	v, _ = d.Look(got)
	expect(t, "Carry of Replace", all(e, text(d, x), v.Parent), all(0, `<a>"g"<d>""</d><b y="2"/></a>`, x))
	before := d.Copy()
	many := make([]diffs.Step, 9)
	for i := range many {
		many[i] = diffs.Step{What: diffs.SetAttr, Name: fmt.Sprint("n", i)}
	}
	for _, y := range []struct {
		d *doms.Dom
		h api.Handle
		l []diffs.Step
		e api.Errno
	}{
		{nil, x, nil, api.ErrNil}, {d, c, nil, api.ErrNone}, {d, x, []diffs.Step{{What: diffs.Free}, {What: 9}}, api.ErrArg}, {d, x, []diffs.Step{{What: diffs.Free}, {What: diffs.Free, At: 2}}, api.ErrNone},
		{d, x, []diffs.Step{{What: diffs.Free, To: 2}}, api.ErrForm}, {d, x, many, api.ErrTree}, {d, x, make([]diffs.Step, 5000), api.ErrLimit},
	} {
		got, e := patches.Carry(y.d, y.h, y.l)
		expect(t, "Carry", all(got, e, doms.Same(before, d)), all(api.Handle{}, y.e, true))
	}
	for range 17 {
		y, _ := d.Words("")
		d.Insert(x, y, api.Handle{})
	}
	expect(t, "Carry from a tree that is not valid", all(patches.Carry(d, x, nil)), all(api.Handle{}, api.ErrTree))
}

func TestP20_2Patch(t *testing.T) {
	d, x := mounted(t, old)
	got, e := patches.Patch(d, x, tree(t, old), tree(t, `<a><b:q>"2"</b><b:r/></a>`))
	v, _ := d.Look(x)
	expect(t, "Patch", all(got, e, v.Children, text(d, x)), all(x, 0, []api.Handle{h(2, 1), h(1, 2)}, `<a><b>"2"</b><b/></a>`))
	before := d.Copy()
	for _, y := range []struct {
		d        *doms.Dom
		h        api.Handle
		old, now api.Node
		e        api.Errno
	}{
		{d, x, tree(t, `<a/>`), tree(t, `<a/>`), api.ErrState}, {nil, x, api.Node{}, api.Node{}, api.ErrNil}, {d, h(9, 1), api.Node{}, api.Node{}, api.ErrNone},
		{d, x, api.Node{}, tree(t, `<a/>`), api.ErrTree}, {d, x, tree(t, `<a/>`), api.Node{}, api.ErrTree}, {d, x, tree(t, old), tree(t, old), api.ErrState},
	} {
		got, e := patches.Patch(y.d, y.h, y.old, y.now)
		expect(t, "Patch", all(got, e, doms.Same(before, d)), all(api.Handle{}, y.e, true))
	}
	got, e = patches.Patch(d, x, tree(t, `<a><b:q>"2"</b><b:r/></a>`), tree(t, `<c/>`))
	expect(t, "Patch to another root", all(got, e, d.Roots()), all(h(4, 1), 0, []api.Handle{h(4, 1)}))
}

func TestP20_2PatchStops(t *testing.T) {
	eight := `<a a1="" a2="" a3="" a4="" a5="" a6="" a7="" a8=""/>`
	d, x := mounted(t, eight)
	got, e := patches.Patch(d, x, tree(t, eight), tree(t, `<a a0="" a1="" a2="" a3="" a4="" a5="" a6="" a7=""/>`))
	expect(t, "too many attributes on the way", all(got, e, text(d, x)), all(api.Handle{}, api.ErrLimit, eight))
	d, x = mounted(t, `<a><b:k/>"t"</a>`)
	for range 1<<20 - 3 {
		d.Words("")
	}
	got, e = patches.Patch(d, x, tree(t, `<a><b:k/>"t"</a>`), tree(t, `<a><b:l/>"u"<c/></a>`))
	expect(t, "no slot", all(got, e, text(d, x)), all(api.Handle{}, api.ErrLimit, `<a><b/>"u"</a>`))
}

func TestP20_3Cost(t *testing.T) {
	for _, x := range []struct {
		old, now string
		want     doms.Counters
	}{
		{old, `<a><b:q>"2"</b><b:r/></a>`, doms.Counters{Created: 1, Freed: 1, Inserted: 1, Removed: 1, Wrote: 1}},
		{old, old, doms.Counters{}}, {old, `<c x="1">"t"</c>`, doms.Counters{Live: -2, Created: 2, Freed: 4, Inserted: 1, Wrote: 1}},
		{`<a x="1" y="2"><b:p/><b:q/></a>`, `<a x="2" z="3"><b:q>"t"</b><b:p/></a>`, doms.Counters{Live: 1, Created: 1, Inserted: 1, Moved: 1, Wrote: 3}},
		{`<a><b><c>"x"</c></b></a>`, `<a><b><d/></b></a>`, doms.Counters{Live: -1, Created: 1, Freed: 2, Inserted: 1, Removed: 1}},
	} {
		expect(t, "Cost", all(patches.Cost(tree(t, x.old), tree(t, x.now))), all(x.want, 0))
	}
	expect(t, "Cost", all(patches.Cost(api.Node{}, tree(t, old))), all(doms.Counters{}, api.ErrTree))
	expect(t, "Cost", all(patches.Cost(tree(t, old), api.Node{})), all(doms.Counters{}, api.ErrTree))
}

// random returns a tree by a fixed rule.
func random(next func(n int) int, level int) api.Node {
	if level > 3 || next(4) == 0 && level > 1 {
		return api.Node{Kind: api.Words, Text: string(rune('s' + next(3)))}
	}
	n := api.Node{Kind: api.Element, Tag: string(rune('a' + next(2)))}
	for i := range 3 {
		if next(2) == 0 {
			n.Attrs = append(n.Attrs, api.Attr{Name: string(rune('m' + i)), Value: string(rune('0' + next(2)))})
		}
	}
	used := map[string]bool{}
	for range next(6) {
		child := random(next, level+1)
		key := string(rune('i' + next(5)))
		if child.Kind == api.Element && next(3) > 0 && !used[key] {
			used[key] = true
			child.Key = key
		}
		n.Children = append(n.Children, child)
	}
	return n
}

// less returns how much greater counters are.
func less(a, b doms.Counters) doms.Counters {
	return doms.Counters{Live: a.Live - b.Live, Created: a.Created - b.Created, Freed: a.Freed - b.Freed, Inserted: a.Inserted - b.Inserted,
		Removed: a.Removed - b.Removed, Moved: a.Moved - b.Moved, Wrote: a.Wrote - b.Wrote, Placed: a.Placed - b.Placed}
}

// TestP20_4Consequences patches many trees.
func TestP20_4Consequences(t *testing.T) {
	seed := uint32(31)
	next := func(n int) int {
		seed = seed*1664525 + 1013904223
		return int(seed>>8) % n
	}
	d := doms.New()
	beside, _ := mounts.Mount(d, tree(t, `<o><p/>"q"</o>`))
	var parent api.Handle
	for i := range 2000 {
		old, now := random(next, 1), random(next, 1)
		if nodes.Check(old) != api.OK || nodes.Check(now) != api.OK {
			continue
		}
		x, _ := mounts.Mount(d, old)
		parent = api.Handle{}
		if i%2 == 0 {
			parent, _ = d.Element("up")
			d.Insert(parent, x, api.Handle{})
		}
		before := d.Counters()
		view, _ := d.Look(x)
		got, e := patches.Patch(d, x, old, now)
		is, _ := mounts.Is(d, got, now)
		cost, _ := patches.Cost(old, now)
		fit := diffs.Fit(old, now)
		if e != api.OK || !is || fit != (got == x) || (fit || i%2 == 1) && less(d.Counters(), before) != cost {
			t.Fatal(e, is, less(d.Counters(), before), cost)
		}
		match, _ := diffs.Match(old, now)
		after, _ := d.Look(got)
		for k, m := range match {
			if m >= 0 && after.Children[k] != view.Children[m] {
				t.Fatal("a child that matches has another handle")
			}
		}
		if after.Parent != parent || text(d, beside) != `<o><p/>"q"</o>` {
			t.Fatal("something else has changed")
		}
		same := d.Copy()
		patches.Patch(d, got, now, now)
		steps, _ := diffs.Diff(nodes.Strip(now), old)
		want, _ := diffs.Apply(nodes.Strip(now), steps)
		if !doms.Same(same, d) {
			t.Fatal("a patch to itself changes something")
		}
		got, e = patches.Carry(d, got, steps)
		if is, _ := mounts.Is(d, got, want); e != api.OK || !is {
			t.Fatal("Carry is not Apply", e)
		}
		if i%2 == 0 {
			got = parent
		}
		mounts.Drop(d, got)
	}
	if s := text(d, beside); !strings.HasPrefix(s, "<o>") || d.Counters().Live != 3 {
		t.Error(s)
	}
}
