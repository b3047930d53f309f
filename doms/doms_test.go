package doms_test

import (
	"fmt"
	"math"
	"strings"
	"testing"

	"paternoster/api"
	"paternoster/doms"
	"paternoster/nodes"
)

// expect fails unless two values are written alike.
func expect(t *testing.T, what string, got, want any) {
	t.Helper()
	if g, w := fmt.Sprint(got), fmt.Sprint(want); g != w {
		t.Errorf("%s: %s, expected %s", what, g, w)
	}
}

func all(l ...any) []any { return l }

func h(index, gen uint32) api.Handle { return api.Handle{Index: index, Gen: gen} }

var zero api.Handle

// three returns the DOM of the chapter's examples.
func three(t *testing.T) (d *doms.Dom, a, b, c api.Handle) {
	t.Helper()
	d = doms.New()
	a, e := d.Element("x")
	b, f := d.Element("y")
	c, g := d.Words("w")
	expect(t, "handles", all(a, b, c, e, f, g), all(h(0, 1), h(1, 1), h(2, 1), 0, 0, 0))
	return d, a, b, c
}

// unchanged fails if a call changes a DOM, or returns another error.
func unchanged(t *testing.T, what string, d *doms.Dom, want api.Errno, call func() api.Errno) {
	t.Helper()
	before := d.Copy()
	if e := call(); e != want || !doms.Same(before, d) {
		t.Errorf("%s: error %d, expected %d; the same: %v", what, e, want, doms.Same(before, d))
	}
}

func children(t *testing.T, d *doms.Dom, x api.Handle) []api.Handle {
	t.Helper()
	v, e := d.Look(x)
	if e != api.OK {
		t.Fatal(e)
	}
	return v.Children
}

func TestP16_1NewElementWords(t *testing.T) {
	d, a, _, c := three(t)
	expect(t, "Look", all(d.Look(a)), all(doms.View{Kind: api.Element, Tag: "x"}, 0))
	expect(t, "Look", all(d.Look(c)), all(doms.View{Kind: api.Words, Text: "w"}, 0))
	for _, tag := range []string{"", "A", "a b", strings.Repeat("a", 17)} {
		expect(t, "Element", all(d.Element(tag)), all(zero, api.ErrArg))
	}
	for _, text := range []string{"\n", "\x7f", strings.Repeat("a", 65)} {
		expect(t, "Words", all(d.Words(text)), all(zero, api.ErrArg))
	}
	expect(t, "Words", all(d.Words("")), all(h(3, 1), 0))
	expect(t, "Counters", d.Counters(), doms.Counters{Live: 4, Created: 4})
	var empty doms.Dom
	expect(t, "the zero Dom", all(empty.Element("a")), all(h(0, 1), 0))
}

func TestP16_1Limit(t *testing.T) {
	d := doms.New()
	for range 1 << 20 {
		if _, e := d.Words(""); e != api.OK {
			t.Fatal(e)
		}
	}
	expect(t, "Words", all(d.Words("")), all(zero, api.ErrLimit))
	expect(t, "Element", all(d.Element("a")), all(zero, api.ErrLimit))
	expect(t, "Element", all(d.Element("")), all(zero, api.ErrArg))
	expect(t, "Counters", d.Counters(), doms.Counters{Live: 1 << 20, Created: 1 << 20})
}

func TestP16_2AttrsAndTexts(t *testing.T) {
	d, a, _, c := three(t)
	expect(t, "SetAttr", all(d.SetAttr(a, "n", "1"), d.SetAttr(a, "m", "2"), d.SetAttr(a, "n", "3"), d.SetAttr(a, "n", "3")), all(0, 0, 0, 0))
	v, _ := d.Look(a)
	expect(t, "Attrs", v.Attrs, []api.Attr{{Name: "m", Value: "2"}, {Name: "n", Value: "3"}})
	expect(t, "DropAttr", d.DropAttr(a, "m"), api.OK)
	expect(t, "SetText", d.SetText(c, "new"), api.OK)
	v, _ = d.Look(c)
	expect(t, "Text", all(v.Text, d.Counters().Wrote), all("new", 6))
	for _, x := range []struct {
		what string
		e    api.Errno
		call func() api.Errno
	}{
		{"SetAttr of Words", api.ErrArg, func() api.Errno { return d.SetAttr(c, "n", "1") }},
		{"SetAttr name", api.ErrArg, func() api.Errno { return d.SetAttr(a, "N", "1") }},
		{"SetAttr value", api.ErrArg, func() api.Errno { return d.SetAttr(a, "n", "\n") }},
		{"SetAttr handle", api.ErrNone, func() api.Errno { return d.SetAttr(h(0, 2), "N", "\n") }},
		{"DropAttr of Words", api.ErrArg, func() api.Errno { return d.DropAttr(c, "n") }},
		{"DropAttr", api.ErrEmpty, func() api.Errno { return d.DropAttr(a, "m") }},
		{"DropAttr of no name", api.ErrEmpty, func() api.Errno { return d.DropAttr(a, "") }},
		{"DropAttr handle", api.ErrNone, func() api.Errno { return d.DropAttr(zero, "") }},
		{"SetText of an Element", api.ErrArg, func() api.Errno { return d.SetText(a, "") }},
		{"SetText", api.ErrArg, func() api.Errno { return d.SetText(c, "\n") }},
		{"SetText handle", api.ErrNone, func() api.Errno { return d.SetText(h(9, 1), "\n") }},
	} {
		unchanged(t, x.what, d, x.e, x.call)
	}
	for i := range 7 {
		expect(t, "SetAttr", d.SetAttr(a, fmt.Sprint("a", i), ""), api.OK)
	}
	unchanged(t, "a ninth attribute", d, api.ErrLimit, func() api.Errno { return d.SetAttr(a, "z", "") })
	expect(t, "SetAttr at the limit", d.SetAttr(a, "n", ""), api.OK)
}

func TestP16_3InsertRemoveMove(t *testing.T) {
	d, a, b, c := three(t)
	expect(t, "Insert", all(d.Insert(a, b, zero), d.Insert(a, c, b), children(t, d, a)), all(0, 0, []api.Handle{c, b}))
	for _, x := range []struct {
		what string
		e    api.Errno
		call func() api.Errno
	}{
		{"Insert below itself", api.ErrState, func() api.Errno { return d.Insert(b, a, zero) }},
		{"Insert into itself", api.ErrState, func() api.Errno { return d.Insert(a, a, zero) }},
		{"Insert into Words", api.ErrArg, func() api.Errno { return d.Insert(c, b, zero) }},
		{"Insert of a child", api.ErrState, func() api.Errno { return d.Insert(a, b, zero) }},
		{"Insert of a child ahead of no child", api.ErrState, func() api.Errno { return d.Insert(b, c, a) }},
		{"Insert handles", api.ErrNone, func() api.Errno { return d.Insert(c, zero, zero) }},
		{"Insert handles", api.ErrNone, func() api.Errno { return d.Insert(c, c, h(1, 2)) }},
		{"Move ahead of itself", api.ErrArg, func() api.Errno { return d.Move(b, b) }},
		{"Move ahead of no sibling", api.ErrArg, func() api.Errno { return d.Move(b, a) }},
		{"Move of a root", api.ErrState, func() api.Errno { return d.Move(a, a) }},
		{"Move handles", api.ErrNone, func() api.Errno { return d.Move(a, h(7, 1)) }},
		{"Remove of a root", api.ErrState, func() api.Errno { return d.Remove(a) }},
		{"Remove handle", api.ErrNone, func() api.Errno { return d.Remove(zero) }},
	} {
		unchanged(t, x.what, d, x.e, x.call)
	}
	other, _ := d.Element("o")
	unchanged(t, "Insert ahead of no child", d, api.ErrArg, func() api.Errno { return d.Insert(b, other, c) })
	unchanged(t, "Insert ahead of itself", d, api.ErrArg, func() api.Errno { return d.Insert(a, other, other) })
	expect(t, "Insert", all(d.Insert(b, other, zero), d.Remove(b)), all(0, 0))
	v, _ := d.Look(b)
	expect(t, "Remove", all(children(t, d, a), v.Parent, v.Children), all([]api.Handle{c}, zero, []api.Handle{other}))
	expect(t, "Insert", all(d.Insert(a, b, c), children(t, d, a)), all(0, []api.Handle{b, c}))
	expect(t, "Move to the end", all(d.Move(b, zero), children(t, d, a)), all(0, []api.Handle{c, b}))
	expect(t, "Move to where it is", all(d.Move(c, b), d.Move(b, zero), children(t, d, a)), all(0, 0, []api.Handle{c, b}))
	expect(t, "Counters", d.Counters(), doms.Counters{Live: 4, Created: 4, Inserted: 4, Removed: 1, Moved: 3})
}

func TestP16_4PlaceFree(t *testing.T) {
	d, a, b, c := three(t)
	expect(t, "Place", d.Place(b, math.MinInt64, math.MaxInt64, true), api.OK)
	v, _ := d.Look(b)
	expect(t, "Look", v, doms.View{Kind: api.Element, Tag: "y", Top: math.MinInt64, Size: math.MaxInt64, Pinned: true})
	unchanged(t, "Place of Words", d, api.ErrArg, func() api.Errno { return d.Place(c, 1, 2, false) })
	unchanged(t, "Place handle", d, api.ErrNone, func() api.Errno { return d.Place(zero, 1, 2, false) })
	d.Insert(a, b, zero)
	d.Insert(b, c, zero)
	e, _ := d.Words("")
	d.Insert(a, e, zero)
	unchanged(t, "Free of a child", d, api.ErrState, func() api.Errno { return d.Free(b) })
	unchanged(t, "Free handle", d, api.ErrNone, func() api.Errno { return d.Free(h(3, 2)) })
	expect(t, "Free", all(d.Free(a), d.Waiting(), d.Roots()), all(0, "[{3 2} {2 2} {1 2} {0 2}]", "[]"))
	expect(t, "Counters", d.Counters(), doms.Counters{Created: 4, Freed: 4, Inserted: 3, Placed: 1})
}

func TestP16_5LookTree(t *testing.T) {
	d, a, b, c := three(t)
	d.Insert(a, b, zero)
	d.Insert(b, c, zero)
	d.SetAttr(b, "n", "1")
	tree, e := d.Tree(a)
	text, _ := nodes.Text(tree)
	expect(t, "Tree", all(text, e), all(`<x><y n="1">"w"</y></x>`, 0))
	v, _ := d.Look(b)
	expect(t, "Look", v, doms.View{Kind: api.Element, Tag: "y", Attrs: []api.Attr{{Name: "n", Value: "1"}}, Parent: a, Children: []api.Handle{c}})
	v.Attrs[0].Value, v.Children[0] = "new", a
	tree.Children[0].Attrs[0].Value = "new"
	v, _ = d.Look(b)
	expect(t, "Look is new memory", all(v.Attrs, v.Children), all("[{n 1}]", []api.Handle{c}))
	for range 16 {
		x, _ := d.Words("")
		d.Insert(b, x, zero)
	}
	expect(t, "Tree with too many children", all(d.Tree(a)), all(api.Node{}, api.ErrTree))
	expect(t, "Tree", all(d.Tree(h(0, 2))), all(api.Node{}, api.ErrNone))
	expect(t, "Look", all(d.Look(zero)), all(doms.View{}, api.ErrNone))
	last := c
	deep := doms.New()
	last, _ = deep.Element("r")
	for range 60000 {
		x, _ := deep.Element("a")
		deep.Insert(last, x, zero)
		last = x
	}
	expect(t, "Tree of many levels", all(deep.Tree(h(0, 1))), all(api.Node{}, api.ErrTree))
	expect(t, "Tree of the last one", all(deep.Tree(last)), all(api.Node{Kind: api.Element, Tag: "a"}, 0))
	expect(t, "Free of many levels", all(deep.Free(h(0, 1)), deep.Counters().Live), all(0, 0))
}

func TestP16_6RootsWaitingCounters(t *testing.T) {
	d, a, b, c := three(t)
	d.Insert(c, b, zero)
	expect(t, "Roots", d.Roots(), []api.Handle{a, b, c})
	d.Insert(b, a, zero)
	expect(t, "Roots", d.Roots(), []api.Handle{b, c})
	d.Free(c)
	d.Free(b)
	expect(t, "Waiting", all(d.Waiting(), d.Roots()), all([]api.Handle{h(0, 2), h(1, 2), h(2, 2)}, "[]"))
	expect(t, "Counters", d.Counters(), doms.Counters{Created: 3, Freed: 3, Inserted: 1})
}

func TestP16_7RecordUndo(t *testing.T) {
	d, a, b, _ := three(t)
	expect(t, "Undo", all(d.Steps(), d.Undo(0), d.Undo(-1)), all(0, api.ErrState, api.ErrState))
	expect(t, "Record", all(d.Record(true), d.Steps(), d.Insert(a, b, zero), d.Insert(a, b, zero), d.Move(b, zero), d.Steps()), all(0, 0, 0, api.ErrState, 0, 2))
	expect(t, "Undo", all(d.Undo(3), d.Undo(-1), d.Undo(2), d.Steps(), d.Undo(1), d.Steps(), d.Counters().Moved), all(api.ErrRange, api.ErrRange, 0, 2, 0, 1, 0))
	expect(t, "Record", all(d.Record(true), d.Steps(), d.Undo(0), children(t, d, a)), all(0, 0, 0, []api.Handle{b}))
	expect(t, "Record", all(d.Record(false), d.Remove(b), d.Steps(), d.Undo(0)), all(0, 0, 0, api.ErrState))
}

func TestP16_8CopySame(t *testing.T) {
	d, a, b, c := three(t)
	d.Insert(a, b, zero)
	d.SetAttr(a, "n", "1")
	d.Free(c)
	d.Record(true)
	same := d.Copy()
	expect(t, "Copy", all(doms.Same(d, same), same.Steps(), same.Undo(0)), all(true, 0, api.ErrState))
	for _, change := range []func(d *doms.Dom){
		func(d *doms.Dom) { d.SetAttr(a, "n", "2") }, func(d *doms.Dom) { d.DropAttr(a, "n") }, func(d *doms.Dom) { d.Remove(b) },
		func(d *doms.Dom) { d.Move(b, zero) }, func(d *doms.Dom) { d.Place(a, 0, 0, false) }, func(d *doms.Dom) { d.Place(a, 0, 1, false) },
		func(d *doms.Dom) { d.Words("w") }, func(d *doms.Dom) { d.Free(a) },
	} {
		x, y := d.Copy(), d.Copy()
		change(x)
		if doms.Same(x, d) || doms.Same(d, x) || !doms.Same(y, d) {
			t.Error("a change is not told, or is shared")
		}
		change(y)
		expect(t, "Same", doms.Same(x, y), true)
	}
	changes := []func(d *doms.Dom){
		func(d *doms.Dom) { d.SetAttr(a, "n", "2") }, func(d *doms.Dom) { d.SetAttr(a, "n", "3") }, func(d *doms.Dom) { d.SetAttr(b, "n", "2") }, func(d *doms.Dom) { d.Place(a, 1, 2, true) }, func(d *doms.Dom) { d.Place(a, 2, 2, true) }, func(d *doms.Dom) { d.Place(a, 1, 3, true) },
		func(d *doms.Dom) { d.Place(a, 1, 2, false) }, func(d *doms.Dom) { d.Words("v") }, func(d *doms.Dom) { d.Words("w") }, func(d *doms.Dom) { d.Element("v") }, func(d *doms.Dom) { d.Element("w") },
	}
	for i, one := range changes {
		for k, other := range changes {
			x, y := d.Copy(), d.Copy()
			one(x)
			other(y)
			expect(t, fmt.Sprint("Same with other nodes ", i, k), doms.Same(x, y), i == k)
		}
	}
	ab, ba := doms.New(), doms.New()
	for _, d := range []*doms.Dom{ab, ba} {
		d.Element("a")
		d.Element("b")
		d.Element("c")
	}
	ab.Insert(a, b, zero)
	ab.Insert(a, c, zero)
	ba.Insert(a, b, zero)
	ba.Insert(a, c, b)
	cd := ab.Copy()
	cd.Remove(c)
	cd.Insert(b, c, zero)
	ab.Remove(c)
	ab.Insert(a, c, zero)
	expect(t, "Same with other children", all(doms.Same(ab, ba), doms.Same(ab, cd)), all(false, false))
	var none *doms.Dom
	expect(t, "Same", all(doms.Same(none, nil), doms.Same(nil, d), doms.Same(d, nil), doms.Same(nil, doms.New()), doms.Same(doms.New(), &doms.Dom{})), all(true, false, false, false, true))
}

// TestP16_9Consequences undoes whatever was done to the numbers of steps before.
func TestP16_9Consequences(t *testing.T) {
	seed := uint32(23)
	next := func(n int) int {
		seed = seed*1664525 + 1013904223
		return int(seed>>8) % n
	}
	d := doms.New()
	d.Words("ahead")
	d.Record(true)
	states := []*doms.Dom{d.Copy()}
	for range 4000 {
		var there []api.Handle
		for _, root := range d.Roots() {
			there = append(there, below(d, root)...)
		}
		any := func() api.Handle {
			if next(8) > 0 {
				return there[next(len(there))]
			}
			c := d.Counters()
			return h(uint32(next(c.Created-c.Freed+4)), uint32(1+next(3)))
		}
		x, y, z := any(), any(), any()
		if next(2) == 0 {
			z = zero
		}
		steps, before := d.Steps(), d.Copy()
		var e api.Errno
		switch next(10) {
		case 0:
			_, e = d.Element([]string{"a", "b", "B"}[next(3)])
		case 1:
			_, e = d.Words("w")
		case 2:
			e = d.SetAttr(x, string(rune('a'+next(3))), "v")
		case 3:
			e = d.DropAttr(x, string(rune('a'+next(3))))
		case 4:
			e = d.SetText(x, fmt.Sprint(next(9)))
		case 5, 6:
			e = d.Insert(x, y, z)
		case 7:
			e = []func() api.Errno{func() api.Errno { return d.Remove(x) }, func() api.Errno { return d.Move(x, z) }}[next(2)]()
		case 8:
			e = d.Place(x, int64(next(9)), 1, next(2) == 0)
		default:
			if next(4) > 0 && x != (h(0, 1)) {
				e = d.Free(x)
			} else if next(12) == 0 {
				to := next(steps + 1)
				d.Undo(to)
				states = states[:to+1]
				if !doms.Same(d, states[to]) {
					t.Fatal("not the same behind Undo")
				}
			}
		}
		if e != api.OK && (!doms.Same(d, before) || d.Steps() != steps) {
			t.Fatal("a call with an error changed something", e)
		}
		if d.Steps() > steps {
			states = append(states, d.Copy())
		}
		c := d.Counters()
		if c.Live != c.Created-c.Freed {
			t.Fatal(c)
		}
		agree(t, d)
	}
	for to := d.Steps(); to >= 0; to-- {
		if e := d.Undo(to); e != api.OK || !doms.Same(d, states[to]) {
			t.Fatal("not the same behind Undo", to)
		}
	}
}

// below returns a node, and all nodes below it.
func below(d *doms.Dom, x api.Handle) []api.Handle {
	l := []api.Handle{x}
	v, _ := d.Look(x)
	for _, child := range v.Children {
		l = append(l, below(d, child)...)
	}
	return l
}

// agree fails unless parents and children agree, and all nodes are below a root.
func agree(t *testing.T, d *doms.Dom) {
	t.Helper()
	n := 0
	var visit func(x, parent api.Handle)
	visit = func(x, parent api.Handle) {
		n++
		v, e := d.Look(x)
		if e != api.OK || v.Parent != parent {
			t.Fatal("parents and children do not agree")
		}
		for _, child := range v.Children {
			visit(child, x)
		}
	}
	for _, root := range d.Roots() {
		visit(root, zero)
	}
	if n != d.Counters().Live {
		t.Fatal("nodes that are below no root")
	}
}

func TestNil(t *testing.T) {
	var d *doms.Dom
	expect(t, "nil", all(d.SetAttr(zero, "", ""), d.DropAttr(zero, ""), d.SetText(zero, ""), d.Insert(zero, zero, zero), d.Remove(zero), d.Move(zero, zero),
		d.Place(zero, 0, 0, false), d.Free(zero), d.Record(true), d.Undo(0)), strings.Fields(strings.Repeat("2 ", 10)))
	expect(t, "nil", all(len(d.Roots()), len(d.Waiting()), d.Counters(), d.Steps(), d.Copy() == nil), all(0, 0, doms.Counters{}, 0, true))
	expect(t, "Element", all(d.Element("")), all(zero, api.ErrNil))
	expect(t, "Words", all(d.Words("")), all(zero, api.ErrNil))
	expect(t, "Look", all(d.Look(zero)), all(doms.View{}, api.ErrNil))
	expect(t, "Tree", all(d.Tree(zero)), all(api.Node{}, api.ErrNil))
}
