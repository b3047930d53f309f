package rebinds_test

import (
	"fmt"
	"slices"
	"testing"

	"paternoster/api"
	"paternoster/doms"
	"paternoster/mounts"
	"paternoster/nodes"
	"paternoster/pools"
	"paternoster/rebinds"
	"paternoster/templates"
)

// expect fails unless two values are written alike.
func expect(t *testing.T, what string, got, want any) {
	t.Helper()
	if g, w := fmt.Sprint(got), fmt.Sprint(want); g != w {
		t.Errorf("%s: %s, expected %s", what, g, w)
	}
}

func all(l ...any) []any { return l }

func h(index, gen uint32) api.Handle { return api.Handle{Index: index, Gen: gen} }

func template() api.Part {
	return api.Part{Kind: api.Element, Tag: "li", Parts: []api.Part{{Kind: api.Field}, {Kind: api.Each, Tag: "i"}}}
}

func job(key uint64, text string, marks ...string) rebinds.Job {
	return rebinds.Job{Template: template(), Item: api.Item{Key: key, Text: text, Marks: marks}, Most: 64}
}

// flawed returns a job with the flaw 1.
func flawed(j rebinds.Job) rebinds.Job {
	j.Flaw = 1
	return j
}

// text returns the text of the tree of a node of a DOM.
func text(d *doms.Dom, x api.Handle) string {
	n, _ := d.Tree(x)
	s, _ := nodes.Text(n)
	return s
}

func bounds(t *testing.T, l ...int) pools.Pools[rebinds.Row] {
	t.Helper()
	p, e := pools.New[rebinds.Row](l)
	if e != api.OK {
		t.Fatal(e)
	}
	return p
}

func keys(p pools.Pools[rebinds.Row]) []uint64 {
	var l []uint64
	rows, _ := pools.All(p)
	for _, r := range rows {
		l = append(l, r.Key)
	}
	return l
}

// made returns a DOM with a row of a job.
func made(t *testing.T, j rebinds.Job) (*doms.Dom, rebinds.Row) {
	t.Helper()
	d := doms.New()
	r, e := rebinds.Make(d, j)
	if e != api.OK {
		t.Fatal(e)
	}
	return d, r
}

func TestP22_1Make(t *testing.T) {
	d, r := made(t, job(1, "a", "u"))
	s, _ := nodes.Text(r.Tree)
	expect(t, "Make", all(r.Key, r.Type, r.Root, s, text(d, r.Root), d.Counters().Created), all(1, 0, h(0, 1), `<li>"a"<i:u>"u"</i></li>`, `<li>"a"<i>"u"</i></li>`, 4))
	before := d.Copy()
	few := job(1, "a", "u")
	few.Most = 3
	for _, x := range []struct {
		d *doms.Dom
		j rebinds.Job
		e api.Errno
	}{{nil, rebinds.Job{}, api.ErrNil}, {d, rebinds.Job{}, api.ErrArg}, {d, rebinds.Job{Most: 1}, api.ErrTree}, {d, job(0, ""), api.ErrItem}, {d, few, api.ErrTree}, {d, job(1, "", "u", "u"), api.ErrTree}} {
		expect(t, "Make", all(rebinds.Make(x.d, x.j)), all(rebinds.Row{}, x.e))
	}
	expect(t, "what was refused", doms.Same(before, d), true)
}

func TestP22_2RebindCost(t *testing.T) {
	d, r := made(t, job(1, "a", "u"))
	x := job(2, "b", "v")
	x.Item.Type = 3
	before := d.Counters()
	cost, e := rebinds.Cost(r, x)
	got, f := rebinds.Rebind(d, r, x)
	s, _ := nodes.Text(got.Tree)
	expect(t, "Rebind", all(got.Key, got.Type, got.Root, s, text(d, got.Root), e, f), all(2, 3, h(0, 1), `<li>"b"<i:v>"v"</i></li>`, `<li>"b"<i>"v"</i></li>`, 0, 0))
	after := d.Counters()
	expect(t, "Cost", cost, doms.Counters{Live: after.Live - before.Live, Created: after.Created - before.Created, Freed: after.Freed, Inserted: after.Inserted - before.Inserted, Removed: after.Removed, Wrote: after.Wrote})
	back, e := rebinds.Rebind(d, got, flawed(job(1, "a", "u")))
	s, _ = nodes.Text(back.Tree)
	expect(t, "Rebind with the flaw 1", all(text(d, back.Root), s, e), all(`<li>"a"<i>"u"</i><i>"v"</i></li>`, `<li>"a"<i:u>"u"</i><i:v>"v"</i></li>`, 0))
	same := d.Copy()
	wrong := r
	wrong.Root = h(9, 1)
	other := back
	other.Tree = r.Tree
	bad := back
	bad.Tree = api.Node{}
	for _, y := range []struct {
		d *doms.Dom
		r rebinds.Row
		j rebinds.Job
		e api.Errno
	}{
		{nil, wrong, rebinds.Job{}, api.ErrNil}, {d, wrong, rebinds.Job{}, api.ErrNone}, {d, bad, rebinds.Job{}, api.ErrArg}, {d, bad, job(0, ""), api.ErrItem},
		{d, bad, job(1, ""), api.ErrTree}, {d, bad, flawed(job(1, "")), api.ErrTree}, {d, other, job(1, ""), api.ErrState},
	} {
		expect(t, "Rebind", all(rebinds.Rebind(y.d, y.r, y.j)), all(rebinds.Row{}, y.e))
	}
	expect(t, "what was refused", doms.Same(same, d), true)
	expect(t, "Cost", all(rebinds.Cost(bad, job(0, ""))), all(doms.Counters{}, api.ErrItem))
	expect(t, "Cost", all(rebinds.Cost(bad, job(1, ""))), all(doms.Counters{}, api.ErrTree))
	expect(t, "Cost", all(rebinds.Cost(bad, flawed(job(1, "")))), all(doms.Counters{}, api.ErrTree))
	flat, _ := rebinds.Cost(r, flawed(job(2, "b", "v")))
	expect(t, "Cost with the flaw 1", flat, doms.Counters{Live: 2, Created: 2, Inserted: 2, Wrote: 1})
}

func TestP22_3Put(t *testing.T) {
	d, r := made(t, job(1, "a"))
	list, _ := d.Element("list")
	d.Insert(list, r.Root, api.Handle{})
	p, dropped, e := rebinds.Put(d, bounds(t, 1), r)
	expect(t, "Put", all(keys(p), dropped, e, d.Roots(), d.Counters().Removed), all("[1]", false, 0, []api.Handle{r.Root, list}, 1))
	other, _ := rebinds.Make(d, job(2, "b"))
	d.Insert(list, other.Root, api.Handle{})
	q, dropped, e := rebinds.Put(d, p, other)
	expect(t, "Put into a full pool", all(keys(q), dropped, e, d.Roots(), d.Counters().Live, d.Counters().Removed), all("[1]", true, 0, []api.Handle{r.Root, list}, 3, 2))
	before := d.Copy()
	typed := r
	typed.Type = 1
	for _, x := range []struct {
		d *doms.Dom
		p pools.Pools[rebinds.Row]
		r rebinds.Row
		e api.Errno
	}{{nil, p, other, api.ErrNil}, {d, pools.Pools[rebinds.Row]{}, other, api.ErrNone}, {d, pools.Pools[rebinds.Row]{}, typed, api.ErrArg}, {d, p, typed, api.ErrRange}} {
		expect(t, "Put", all(rebinds.Put(x.d, x.p, x.r)), all(pools.Pools[rebinds.Row]{}, false, x.e))
	}
	expect(t, "what was refused", doms.Same(before, d), true)
}

func TestP22_3Trim(t *testing.T) {
	d := doms.New()
	p := bounds(t, 3, 2)
	for i := range 5 {
		j := job(uint64(i+1), "x")
		j.Item.Type = uint8(i / 3)
		r, _ := rebinds.Make(d, j)
		p, _, _ = rebinds.Put(d, p, r)
	}
	q, gone, e := rebinds.Trim(d, p, 1)
	expect(t, "Trim", all(keys(q), len(gone), gone[0].Key, gone[2].Key, e, d.Counters().Live, d.Waiting()[0]), all("[3 5]", 3, 1, 4, 0, 4, h(7, 2)))
	before := d.Copy()
	twice := q
	twice.Rows = slices.Clone(q.Rows)
	twice.Rows[0] = append(slices.Clone(q.Rows[0]), q.Rows[0]...)
	none := pools.Pools[rebinds.Row]{}
	expect(t, "Trim", all(rebinds.Trim(nil, none, -1)), all(none, "[]", api.ErrNil))
	expect(t, "Trim", all(rebinds.Trim(d, none, -1)), all(none, "[]", api.ErrArg))
	expect(t, "Trim", all(rebinds.Trim(d, q, -1)), all(none, "[]", api.ErrRange))
	expect(t, "Trim of rows that are gone", all(rebinds.Trim(d, p, 1)), all(none, "[]", api.ErrNone))
	expect(t, "Trim of the same row twice", all(rebinds.Trim(d, twice, 0)), all(none, "[]", api.ErrState))
	expect(t, "what was refused", doms.Same(before, d), true)
	list, _ := d.Element("list")
	d.Insert(list, q.Rows[1][0].Root, api.Handle{})
	expect(t, "Trim of a child", all(rebinds.Trim(d, q, 0)), all(none, "[]", api.ErrState))
	broken := q
	broken.Rows = [][]rebinds.Row{q.Rows[1], {{Root: h(77, 1)}}}
	expect(t, "Trim names ErrNone first", all(rebinds.Trim(d, broken, 0)), all(none, "[]", api.ErrNone))
}

func TestP22_4Take(t *testing.T) {
	d, r := made(t, job(1, "a", "u"))
	p, _, _ := rebinds.Put(d, bounds(t, 1), r)
	q, got, rebound, e := rebinds.Take(d, p, job(2, "b", "v"))
	expect(t, "Take", all(keys(q), got.Key, got.Root, rebound, e, text(d, got.Root)), all("[]", 2, r.Root, true, 0, `<li>"b"<i>"v"</i></li>`))
	q, got, rebound, e = rebinds.Take(d, q, job(3, "c"))
	expect(t, "Take", all(keys(q), got.Key, rebound, e, text(d, got.Root)), all("[]", 3, false, 0, `<li>"c"</li>`))
	before := d.Copy()
	none := pools.Pools[rebinds.Row]{}
	typed := job(0, "a")
	typed.Item.Type = 1
	stale := r
	gone := p
	gone.Rows = [][]rebinds.Row{{stale}}
	lost := p
	lost.Rows = [][]rebinds.Row{{{Root: h(50, 1)}}}
	for _, x := range []struct {
		d *doms.Dom
		p pools.Pools[rebinds.Row]
		j rebinds.Job
		e api.Errno
	}{
		{nil, none, typed, api.ErrNil}, {d, none, typed, api.ErrArg}, {d, p, typed, api.ErrRange}, {d, lost, job(0, ""), api.ErrItem}, {d, lost, job(1, ""), api.ErrNone}, {d, gone, job(1, ""), api.ErrState},
		{d, bounds(t, 1), job(0, ""), api.ErrItem},
	} {
		expect(t, "Take", all(rebinds.Take(x.d, x.p, x.j)), all(none, rebinds.Row{}, false, x.e))
	}
	expect(t, "what was refused", doms.Same(before, d), true)
}

func TestP22_5Consequences(t *testing.T) {
	items := []rebinds.Job{job(1, "a", "u"), job(2, "", "v", "w", "u"), job(3, "a"), job(4, "b", "u", "x")}
	for _, a := range items {
		for _, b := range items {
			d, r := made(t, a)
			got, e := rebinds.Rebind(d, r, b)
			want, _ := templates.Render(b.Template, b.Item, b.Most)
			is, _ := mounts.Is(d, got.Root, want)
			if e != api.OK || !is || !nodes.Same(got.Tree, want) || got.Root != r.Root {
				t.Error("a row that was rebound is not like one that was made")
			}
			before := d.Copy()
			cost, _ := rebinds.Cost(got, b)
			again, _ := rebinds.Rebind(d, got, b)
			expect(t, "rebinding for the same job", all(again, cost, doms.Same(before, d)), all(got, doms.Counters{}, true))
		}
	}
	d, r := made(t, items[0])
	p, _, _ := rebinds.Put(d, bounds(t, 2), r)
	s, _ := rebinds.Make(d, items[1])
	p, _, _ = rebinds.Put(d, p, s)
	_, _, _, e := rebinds.Take(d, p, items[2])
	expect(t, "the other row stays", all(e, text(d, r.Root), d.Roots()), all(0, `<li>"a"<i>"u"</i></li>`, []api.Handle{r.Root, s.Root}))
}
