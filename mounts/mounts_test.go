package mounts_test

import (
	"fmt"
	"testing"

	"paternoster/api"
	"paternoster/doms"
	"paternoster/mounts"
	"paternoster/nodes"
)

// expect fails unless two values are written alike.
func expect(t *testing.T, what string, got, want any) {
	t.Helper()
	if g, w := fmt.Sprint(got), fmt.Sprint(want); g != w {
		t.Errorf("%s: %s, expected %s", what, g, w)
	}
}

func all(l ...any) []any { return l }

func h(index, gen uint32) api.Handle { return api.Handle{Index: index, Gen: gen} }

// tree returns the tree with a text.
func tree(t *testing.T, s string) api.Node {
	t.Helper()
	n, at, e := nodes.Parse(s)
	if e != api.OK {
		t.Fatal(s, at, e)
	}
	return n
}

// text returns the text of the tree of a node of a DOM.
func text(d *doms.Dom, x api.Handle) string {
	n, _ := d.Tree(x)
	s, _ := nodes.Text(n)
	return s
}

func trees() []string {
	return []string{`"t"`, `<a/>`, `<a x="1"><b/>"t"</a>`, `<a:k x="1" y="2"><b:l z=""><c/>""</b>"t"<d/></a>`}
}

func TestP18_1MountCost(t *testing.T) {
	d := doms.New()
	x, e := mounts.Mount(d, tree(t, trees()[2]))
	l, f := mounts.Handles(d, x)
	expect(t, "Mount", all(x, e, l, f), all(h(0, 1), 0, []api.Handle{h(0, 1), h(1, 1), h(2, 1)}, 0))
	expect(t, "Cost", all(mounts.Cost(tree(t, trees()[2]))), all(doms.Counters{Live: 3, Created: 3, Inserted: 2, Wrote: 1}, 0))
	expect(t, "Cost", all(mounts.Cost(tree(t, trees()[3]))), all(doms.Counters{Live: 6, Created: 6, Inserted: 5, Wrote: 3}, 0))
	before := d.Copy()
	expect(t, "Mount", all(mounts.Mount(d, api.Node{})), all(api.Handle{}, api.ErrTree))
	expect(t, "Mount", all(mounts.Mount(nil, api.Node{})), all(api.Handle{}, api.ErrNil))
	expect(t, "Cost", all(mounts.Cost(api.Node{})), all(doms.Counters{}, api.ErrTree))
	expect(t, "what was refused", doms.Same(d, before), true)
}

func TestP18_1Full(t *testing.T) {
	d := doms.New()
	for range 1<<20 - 3 {
		d.Words("")
	}
	expect(t, "Mount", all(mounts.Mount(d, tree(t, `<a><b><c/><d/></b></a>`))), all(api.Handle{}, api.ErrLimit))
	c := d.Counters()
	expect(t, "what was mounted is freed", all(c.Live, len(d.Waiting()), c.Created-c.Freed), all(1<<20-3, 3, 1<<20-3))
	_, e := mounts.Mount(d, tree(t, `<a><b/><c/></a>`))
	expect(t, "Mount", e, api.OK)
}

func TestP18_2HandlesIs(t *testing.T) {
	d := doms.New()
	x, _ := mounts.Mount(d, tree(t, trees()[3]))
	expect(t, "Handles", all(mounts.Handles(d, x)), all("[{0 1} {1 1} {2 1} {3 1} {4 1} {5 1}]", 0))
	expect(t, "Handles", all(mounts.Handles(d, h(1, 1))), all("[{1 1} {2 1} {3 1}]", 0))
	for i, s := range trees() {
		expect(t, "Is", all(mounts.Is(d, x, tree(t, s))), all(i == 3, 0))
	}
	expect(t, "Is", all(mounts.Is(d, h(1, 1), tree(t, `<b:m z=""><c/>""</b>`))), all(true, 0))
	expect(t, "Is", all(mounts.Is(d, x, api.Node{})), all(false, api.ErrTree))
	for range 17 {
		y, _ := d.Words("")
		d.Insert(x, y, api.Handle{})
	}
	expect(t, "Is with a tree that is not valid", all(mounts.Is(d, x, tree(t, trees()[3]))), all(false, 0))
	expect(t, "Is", all(mounts.Is(nil, x, api.Node{})), all(false, api.ErrNil))
	expect(t, "Is", all(mounts.Is(d, h(0, 2), api.Node{})), all(false, api.ErrNone))
	expect(t, "Handles", all(mounts.Handles(d, api.Handle{})), all("[]", api.ErrNone))
	expect(t, "Handles", all(mounts.Handles(nil, api.Handle{})), all("[]", api.ErrNil))
}

func TestP18_3DropClear(t *testing.T) {
	d := doms.New()
	x, _ := mounts.Mount(d, tree(t, trees()[2]))
	expect(t, "Drop", all(mounts.Drop(d, h(1, 1)), text(d, x), d.Counters()), all(0, `<a x="1">"t"</a>`, doms.Counters{Live: 2, Created: 3, Freed: 1, Inserted: 2, Removed: 1, Wrote: 1}))
	expect(t, "Clear", all(mounts.Clear(d, x), text(d, x), d.Counters().Live, mounts.Clear(d, x)), all(0, `<a x="1"/>`, 1, 0))
	y, _ := mounts.Mount(d, tree(t, trees()[3]))
	expect(t, "Clear drops the first one first", all(mounts.Clear(d, y), fmt.Sprint(d.Waiting()[0])), all(0, "{6 2}"))
	expect(t, "Drop of a root", all(mounts.Drop(d, x), d.Roots()), all(0, []api.Handle{y}))
	w, _ := d.Words("")
	before := d.Copy()
	expect(t, "Clear", all(mounts.Clear(d, w), mounts.Clear(d, x), mounts.Clear(nil, x), mounts.Drop(d, x), mounts.Drop(nil, x)), all(api.ErrArg, api.ErrNone, api.ErrNil, api.ErrNone, api.ErrNil))
	expect(t, "what was refused", doms.Same(d, before), true)
}

func TestP18_4Clone(t *testing.T) {
	d := doms.New()
	mounts.Mount(d, tree(t, trees()[3]))
	y, e := mounts.Clone(d, h(1, 1))
	v, _ := d.Look(y)
	expect(t, "Clone", all(y, e, text(d, y), v.Parent), all(h(6, 1), 0, `<b z=""><c/>""</b>`, api.Handle{}))
	for range 17 {
		z, _ := d.Words("")
		d.Insert(y, z, api.Handle{})
	}
	expect(t, "Clone", all(mounts.Clone(d, y)), all(api.Handle{}, api.ErrTree))
	expect(t, "Clone", all(mounts.Clone(d, h(99, 1))), all(api.Handle{}, api.ErrNone))
	expect(t, "Clone", all(mounts.Clone(nil, y)), all(api.Handle{}, api.ErrNil))
}

func TestP18_5Consequences(t *testing.T) {
	for _, s := range trees() {
		n := tree(t, s)
		d := doms.New()
		d.Element("other")
		before := d.Counters()
		x, _ := mounts.Mount(d, n)
		stripped, _ := nodes.Text(nodes.Strip(n))
		cost, _ := mounts.Cost(n)
		c := d.Counters()
		expect(t, "Tree", text(d, x), stripped)
		expect(t, "Counters", c, doms.Counters{Live: before.Live + cost.Live, Created: before.Created + cost.Created, Inserted: cost.Inserted, Wrote: cost.Wrote})
		l, _ := mounts.Handles(d, x)
		expect(t, "Handles", all(len(l), l[0]), all(nodes.Count(n), x))
		mounts.Drop(d, x)
		expect(t, "Drop", all(d.Counters().Live, len(d.Waiting())), all(1, len(l)))
		mounts.Mount(d, n)
		expect(t, "the same slots", len(d.Waiting()), 0)
	}
}
