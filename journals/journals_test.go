package journals_test

import (
	"fmt"
	"testing"

	"paternoster/api"
	"paternoster/doms"
	"paternoster/journals"
)

// expect fails unless two values are written alike.
func expect(t *testing.T, what string, got, want any) {
	t.Helper()
	if g, w := fmt.Sprint(got), fmt.Sprint(want); g != w {
		t.Errorf("%s: %s, expected %s", what, g, w)
	}
}

func all(l ...any) []any { return l }

// one returns a DOM with one element, and its journal.
func one(t *testing.T) (*doms.Dom, api.Handle, *journals.Journal) {
	t.Helper()
	d := doms.New()
	x, _ := d.Element("a")
	j, e := journals.New(d)
	if e != api.OK {
		t.Fatal(e)
	}
	return d, x, j
}

func attrs(d *doms.Dom, x api.Handle) string {
	v, _ := d.Look(x)
	return fmt.Sprint(v.Attrs)
}

func TestP17_1New(t *testing.T) {
	j, e := journals.New(nil)
	expect(t, "New", all(j == nil, e), all(true, api.ErrNil))
	_, _, j = one(t)
	expect(t, "New", all(j.Depth(), j.Steps(), j.Commit(), j.Rollback()), all(0, 0, api.ErrState, api.ErrState))
}

func TestP17_2BeginCommitRollback(t *testing.T) {
	d, x, j := one(t)
	expect(t, "Begin", all(j.Begin(), d.SetAttr(x, "a", "1"), j.Begin(), d.SetAttr(x, "a", "2"), j.Steps(), j.Depth()), all(0, 0, 0, 0, 1, 2))
	expect(t, "Commit and Rollback", all(j.Commit(), j.Steps(), j.Depth(), j.Rollback(), attrs(d, x), d.Undo(0)), all(0, 2, 1, 0, "[]", api.ErrState))
	expect(t, "none open", all(j.Commit(), j.Rollback()), all(api.ErrState, api.ErrState))
	expect(t, "Rollback of the inner one", all(j.Begin(), d.SetAttr(x, "a", "1"), j.Begin(), d.SetAttr(x, "a", "2"), j.Rollback(), attrs(d, x), j.Commit(), attrs(d, x)),
		all(0, 0, 0, 0, 0, "[{a 1}]", 0, "[{a 1}]"))
	expect(t, "the DOM does not record", d.Undo(0), api.ErrState)
	for range journals.MaxDepth {
		expect(t, "Begin", j.Begin(), api.OK)
	}
	expect(t, "Begin", all(j.Begin(), j.Depth()), all(api.ErrLimit, 64))
}

func TestP17_2RecordsAnew(t *testing.T) {
	d, x, j := one(t)
	d.Record(true)
	d.SetAttr(x, "a", "1")
	expect(t, "Begin", all(j.Begin(), j.Steps(), d.Steps(), d.SetAttr(x, "a", "2"), j.Rollback(), attrs(d, x)), all(0, 0, 0, 0, 0, "[{a 1}]"))
}

func TestP17_3DepthSteps(t *testing.T) {
	d, x, j := one(t)
	for i := range 5 {
		expect(t, "Depth and Steps", all(j.Depth(), j.Steps()), all(i, i))
		j.Begin()
		for range i + 1 {
			d.Place(x, 1, 2, false)
		}
	}
	j.Commit()
	expect(t, "Depth and Steps", all(j.Depth(), j.Steps()), all(4, 9))
}

func TestP17_4Do(t *testing.T) {
	d, x, j := one(t)
	set := func(v string, e api.Errno) func() api.Errno {
		return func() api.Errno {
			d.SetAttr(x, "a", v)
			return e
		}
	}
	expect(t, "Do", all(j.Do(nil), j.Do(set("1", api.ErrArg)), attrs(d, x), j.Do(set("2", api.OK)), attrs(d, x), j.Depth()), all(api.ErrArg, api.ErrArg, "[]", 0, "[{a 2}]", 0))
	left := func(e api.Errno) func() api.Errno {
		return func() api.Errno {
			j.Begin()
			d.SetAttr(x, "a", "3")
			j.Begin()
			d.SetAttr(x, "a", "4")
			return e
		}
	}
	expect(t, "open ones are closed", all(j.Do(left(api.ErrFuel)), attrs(d, x), j.Depth(), j.Do(left(0)), attrs(d, x), j.Depth()), all(api.ErrFuel, "[{a 2}]", 0, 0, "[{a 4}]", 0))
	j.Begin()
	expect(t, "inside another one", all(j.Do(set("5", api.ErrNone)), attrs(d, x), j.Depth(), j.Do(set("6", 0)), j.Depth(), j.Rollback(), attrs(d, x)), all(api.ErrNone, "[{a 4}]", 1, 0, 1, 0, "[{a 4}]"))
	for range journals.MaxDepth {
		j.Begin()
	}
	called := false
	expect(t, "too deep", all(j.Do(func() api.Errno { called = true; return 0 }), called, j.Do(nil)), all(api.ErrLimit, false, api.ErrArg))
}

func TestP17_4DoThatClosesItself(t *testing.T) {
	d, x, j := one(t)
	j.Begin()
	e := j.Do(func() api.Errno {
		d.SetAttr(x, "a", "1")
		j.Commit()
		return api.ErrArg
	})
	expect(t, "closed by f", all(e, j.Depth(), attrs(d, x)), all(api.ErrArg, 1, "[{a 1}]"))
	e = j.Do(func() api.Errno {
		j.Commit()
		j.Commit()
		return api.ErrArg
	})
	expect(t, "more closed by f", all(e, j.Depth(), attrs(d, x)), all(api.ErrArg, 0, "[{a 1}]"))
	e = j.Do(func() api.Errno {
		j.Commit()
		j.Begin()
		d.SetAttr(x, "a", "2")
		j.Begin()
		return api.ErrArg
	})
	expect(t, "begun behind that", all(e, j.Depth(), attrs(d, x)), all(api.ErrArg, 0, "[{a 1}]"))
}

func TestP17_4DoPanics(t *testing.T) {
	d, x, j := one(t)
	before := d.Copy()
	defer func() {
		expect(t, "the panic goes on", all(recover(), j.Depth(), doms.Same(before, d), d.Undo(0)), all("stop", 0, true, api.ErrState))
	}()
	j.Do(func() api.Errno {
		j.Begin()
		d.SetAttr(x, "a", "1")
		panic("stop")
	})
}

func TestP17_5Consequences(t *testing.T) {
	d, x, j := one(t)
	j.Begin()
	before := d.Copy()
	j.Begin()
	y, _ := d.Words("y")
	d.Insert(x, y, api.Handle{})
	j.Begin()
	d.Free(x)
	j.Commit()
	inner := d.Copy()
	j.Commit()
	expect(t, "Commit changes nothing", doms.Same(inner, d), true)
	j.Begin()
	d.Element("z")
	j.Rollback()
	expect(t, "Rollback", doms.Same(inner, d), true)
	j.Rollback()
	expect(t, "Rollback of what was committed", doms.Same(before, d), true)
}

func TestNilAndZero(t *testing.T) {
	for _, j := range []*journals.Journal{nil, {}} {
		expect(t, "nil", all(j.Begin(), j.Commit(), j.Rollback(), j.Depth(), j.Steps(), j.Do(nil)), all(2, 2, 2, 0, 0, 2))
	}
}
