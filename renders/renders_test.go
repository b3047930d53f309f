package renders_test

import (
	"fmt"
	"math"
	"testing"

	"paternoster/api"
	"paternoster/lists"
	"paternoster/nodes"
	"paternoster/renders"
)

// expect fails unless two values are written alike.
func expect(t *testing.T, what string, got, want any) {
	t.Helper()
	if g, w := fmt.Sprintf("%v", got), fmt.Sprintf("%v", want); g != w {
		t.Errorf("%s: %s, expected %s", what, g, w)
	}
}

func all(l ...any) []any { return l }

// rules returns two kinds, of which the second one is Sticky.
func rules() lists.Rules {
	part := api.Part{Kind: api.Element, Tag: "a", Key: "k", Parts: []api.Part{{Kind: api.Number}}}
	return lists.Rules{Cap: 64, Kinds: []api.Kind{{Template: part, Base: 10}, {Template: part, Base: 10, Sticky: true}}}
}

// list returns a list with sizes; those that are negative are of headers.
func list(sizes ...int64) lists.List {
	var l lists.List
	for i, size := range sizes {
		x := lists.Entry{Item: api.Item{Key: uint64(i + 1)}, Size: size, Known: true}
		if size < 0 && size > -1000 {
			x.Item.Type, x.Size = 1, -size
		}
		l.Entries = append(l.Entries, x)
	}
	return l
}

// example is the list of the chapter's examples.
func example() lists.List { return list(-10, 20, -5, 30) }

func badLists() map[api.Errno]lists.List {
	return map[api.Errno]lists.List{
		api.ErrLimit:    {Entries: make([]lists.Entry, api.MaxItems+1)},
		api.ErrHeight:   list(api.MaxHeight, api.MaxHeight, api.MaxHeight, 0),
		api.ErrOverflow: list(api.MaxHeight, api.MaxHeight, 1),
	}
}

func TestP27_1SizedTops(t *testing.T) {
	expect(t, "Tops", all(renders.Tops(example())), all("[0 10 30 35 65]", 0))
	expect(t, "Tops", all(renders.Tops(lists.List{})), all("[0]", 0))
	expect(t, "Sized", all(renders.Sized(example()), renders.Sized(lists.List{}), renders.Sized(list(api.MaxHeight, api.MaxHeight))), all(0, 0, 0))
	expect(t, "Sized", all(renders.Sized(list(api.MaxHeight+1)), renders.Sized(list(math.MinInt64)), renders.Sized(list(0))), all(api.ErrHeight, api.ErrHeight, api.ErrHeight))
	full := lists.List{Entries: make([]lists.Entry, api.MaxItems)}
	for i := range full.Entries {
		full.Entries[i].Size = 1
	}
	expect(t, "Sized at the limit", renders.Sized(full), api.OK)
	for e, l := range badLists() {
		expect(t, "Sized", renders.Sized(l), e)
		expect(t, "Tops", all(renders.Tops(l)), all("[]", e))
		expect(t, "At", all(renders.At(l, -1)), all(0, e))
		expect(t, "Viewport", renders.Viewport(l, -1, -1), e)
		expect(t, "Visible", all(renders.Visible(l, -1, -1)), all(0, 0, e))
	}
}

func TestP27_2At(t *testing.T) {
	for x, want := range map[int64]int{0: 0, 9: 0, 10: 1, 29: 1, 30: 2, 34: 2, 35: 3, 64: 3} {
		expect(t, "At", all(renders.At(example(), x)), all(want, 0))
	}
	for _, x := range []int64{-1, 65, math.MinInt64, math.MaxInt64} {
		expect(t, "At", all(renders.At(example(), x)), all(0, api.ErrRange))
	}
	expect(t, "At", all(renders.At(lists.List{}, 0)), all(0, api.ErrRange))
}

func TestP27_3ViewportVisible(t *testing.T) {
	for _, x := range []struct {
		s, v     int64
		from, to int
		e        api.Errno
	}{
		{0, 10, 0, 1, 0}, {9, 2, 0, 2, 0}, {30, 35, 2, 4, 0}, {31, 35, 0, 0, api.ErrRange}, {0, 65, 0, 4, 0}, {0, 66, 0, 4, 0}, {1, 65, 0, 0, api.ErrRange}, {10, 20, 1, 2, 0}, {10, 21, 1, 3, 0},
		{0, api.MaxView, 0, 4, 0}, {1, api.MaxView, 0, 0, api.ErrRange}, {0, 0, 0, 0, api.ErrArg}, {-1, api.MaxView + 1, 0, 0, api.ErrArg}, {-1, 1, 0, 0, api.ErrRange}, {math.MaxInt64, 1, 0, 0, api.ErrRange}, {64, 1, 3, 4, 0},
	} {
		expect(t, "Visible", all(renders.Visible(example(), x.s, x.v)), all(x.from, x.to, x.e))
		expect(t, "Viewport", renders.Viewport(example(), x.s, x.v), x.e)
	}
	expect(t, "Visible", all(renders.Visible(lists.List{}, 0, 9)), all(0, 0, 0))
	expect(t, "Visible", all(renders.Visible(lists.List{}, 1, 9)), all(0, 0, api.ErrRange))
}

func TestP27_4Full(t *testing.T) {
	rows, e := renders.Full(rules(), example())
	expect(t, "Full", all(len(rows), e, cap(rows)), all(4, 0, 4))
	top := int64(0)
	for i, row := range rows {
		x := example().Entries[i]
		tree, _ := lists.Tree(rules(), example(), i)
		expect(t, "Full", row, api.Row{Key: x.Item.Key, Top: top, Size: x.Size, Tree: nodes.Strip(tree)})
		top += x.Size
	}
	expect(t, "Full", all(renders.Full(rules(), lists.List{})), all("[]", 0))
	expect(t, "Full", all(renders.Full(lists.Rules{}, example())), all("[]", api.ErrConfig))
	twice := example()
	twice.Entries[3].Item.Key = 1
	expect(t, "Full", all(renders.Full(rules(), twice)), all("[]", api.ErrTwice))
}

// seen writes down the keys and tops of a slice.
func seen(x api.Slice) string {
	s := fmt.Sprint("at ", x.Offset)
	for _, row := range x.Rows {
		s += fmt.Sprint(" ", row.Key, ":", row.Top)
	}
	if x.Pinned {
		s += fmt.Sprint(" head ", x.Head.Key, ":", x.Head.Top)
	}
	return s
}

func TestP27_5Slice(t *testing.T) {
	for _, x := range []struct {
		l    lists.List
		s, v int64
		want string
		e    api.Errno
	}{
		{example(), 15, 20, "at 15 2:-5 3:15 head 1:0", 0}, {example(), 0, 20, "at 0 2:10 head 1:0", 0}, {example(), 24, 20, "at 24 2:-14 3:6 4:11 head 1:-4", 0}, {example(), 29, 20, "at 29 2:-19 3:1 4:6 head 1:-9", 0},
		{example(), 30, 20, "at 30 4:5 head 3:0", 0}, {list(10, -5, 30), 9, 5, "at 9 1:-9 2:1", 0}, {list(10, -5, -5, 30), 12, 20, "at 12 3:3 4:8 head 2:-2", 0}, {lists.List{}, 0, 7, "at 0", 0},
		{example(), 50, 20, "at 0", api.ErrRange}, {example(), 0, 0, "at 0", api.ErrArg}, {list(-10, 5), 0, 20, "at 0 2:10 head 1:0", 0},
	} {
		got, e := renders.Slice(rules(), x.l, x.s, x.v)
		expect(t, "Slice", all(seen(got), e), all(x.want, x.e))
		full, _ := renders.Full(rules(), x.l)
		for _, row := range append(got.Rows, got.Head) {
			if row.Key > 0 {
				whole := full[row.Key-1]
				whole.Top = row.Top
				expect(t, "a row of the slice", row, whole)
			}
		}
	}
	expect(t, "Slice", all(renders.Slice(lists.Rules{}, example(), -1, -1)), all(api.Slice{}, api.ErrConfig))
}

func TestP27_5Same(t *testing.T) {
	a, _ := renders.Slice(rules(), example(), 15, 20)
	for i, change := range []func(x *api.Slice){
		func(x *api.Slice) { x.Offset++ }, func(x *api.Slice) { x.Pinned = false }, func(x *api.Slice) { x.Head.Key++ }, func(x *api.Slice) { x.Head.Tree.Tag = "" }, func(x *api.Slice) { x.Rows[1].Key++ },
		func(x *api.Slice) { x.Rows[1].Top++ }, func(x *api.Slice) { x.Rows[1].Size++ }, func(x *api.Slice) { x.Rows[1].Tree.Key = "k" }, func(x *api.Slice) { x.Rows[1].Tree.Children[0].Text = "" }, func(x *api.Slice) { x.Rows = x.Rows[:1] },
	} {
		b, _ := renders.Slice(rules(), example(), 15, 20)
		expect(t, "Same", renders.Same(a, b), true)
		change(&b)
		expect(t, fmt.Sprint("Same ", i), all(renders.Same(a, b), renders.Same(b, a), renders.Same(b, b)), all(false, false, true))
	}
	expect(t, "Same", renders.Same(api.Slice{}, api.Slice{Rows: []api.Row{}}), true)
}

func TestP27_6Consequences(t *testing.T) {
	for _, l := range []lists.List{example(), list(3, 1, -4, 1, 5, -9, -2, 6), list(1), list(-7)} {
		total := lists.Total(l)
		for v := int64(1); v < total+3; v++ {
			for s := int64(0); s <= max(0, total-v); s++ {
				from, to, _ := renders.Visible(l, s, v)
				at, _ := renders.At(l, s)
				x, e := renders.Slice(rules(), l, s, v)
				if from >= to || from != at || e != api.OK {
					t.Fatal(s, v, from, to, at)
				}
				end, first := int64(math.MinInt64), true
				for _, row := range append([]api.Row{}, x.Rows...) {
					if !first && row.Top != end && x.Head.Key != row.Key-1 || first && x.Head.Key != row.Key-1 && row.Top > 0 {
						t.Fatal("a gap", seen(x))
					}
					end, first = row.Top+row.Size, false
				}
				if total >= v && x.Head.Key != uint64(to) && end < v || x.Pinned && (x.Head.Top <= -x.Head.Size || x.Head.Top > 0) {
					t.Fatal("the last row, or the head", seen(x))
				}
			}
		}
		full, _ := renders.Full(rules(), l)
		last := full[len(full)-1]
		expect(t, "the end of the last row", last.Top+last.Size, total)
	}
}
