package windows_test

import (
	"fmt"
	"slices"
	"testing"

	"paternoster/api"
	"paternoster/lists"
	"paternoster/renders"
	"paternoster/spans"
	"paternoster/windows"
)

// expect fails unless two values are written alike.
func expect(t *testing.T, what string, got, want any) {
	t.Helper()
	if g, w := fmt.Sprintf("%v", got), fmt.Sprintf("%v", want); g != w {
		t.Errorf("%s: %s, expected %s", what, g, w)
	}
}

func all(l ...any) []any { return l }

// rules returns two kinds, of which the second one is Sticky.
func rules() lists.Rules {
	part := api.Part{Kind: api.Element, Tag: "a"}
	return lists.Rules{Cap: 64, Kinds: []api.Kind{{Template: part, Base: 10}, {Template: part, Base: 10, Sticky: true}}}
}

// list returns a list with sizes; those that are negative are of headers.
func list(sizes ...int64) lists.List {
	var l lists.List
	for i, size := range sizes {
		x := lists.Entry{Item: api.Item{Key: uint64(i + 1)}, Size: size, Known: true}
		if size < 0 && size > -1000 {
			x.Item.Type, x.Size = 1, -size
		}
		l.Entries = append(l.Entries, x)
	}
	return l
}

func example() lists.List { return list(-10, 20, -5, 30) }

func TestP29_1Window(t *testing.T) {
	for _, x := range []struct {
		s, v     int64
		over     int
		from, to int
		e        api.Errno
	}{
		{0, 10, 0, 0, 1, 0}, {0, 10, 1, 0, 2, 0}, {30, 5, 1, 1, 4, 0}, {30, 5, 16, 0, 4, 0}, {31, 5, 0, 2, 4, 0}, {0, 0, 17, 0, 0, api.ErrArg}, {99, 10, 17, 0, 0, api.ErrRange}, {0, 10, 17, 0, 0, api.ErrArg}, {0, 10, -1, 0, 0, api.ErrArg},
	} {
		expect(t, "Window", all(windows.Window(example(), x.s, x.v, x.over)), all(spans.Span{From: x.from, To: x.to}, x.e))
	}
	expect(t, "Window", all(windows.Window(lists.List{}, 0, 10, 3)), all(spans.Span{}, 0))
	expect(t, "Window", all(windows.Window(lists.List{}, 0, 10, 17)), all(spans.Span{}, api.ErrArg))
	expect(t, "Window", all(windows.Window(list(0), 0, 0, 17)), all(spans.Span{}, api.ErrHeight))
}

func TestP29_2AttachedUnknown(t *testing.T) {
	for _, x := range []struct {
		s, v int64
		over int
		want []int
	}{{15, 10, 0, []int{0, 1}}, {15, 10, 1, []int{0, 1, 2}}, {31, 5, 0, []int{2, 3}}, {0, 5, 0, []int{0}}, {36, 5, 0, []int{2, 3}}, {36, 5, 2, []int{1, 2, 3}}} {
		expect(t, "Attached", all(windows.Attached(rules(), example(), x.s, x.v, x.over)), all(x.want, 0))
	}
	l := example()
	l.Entries[0].Known, l.Entries[3].Known = false, false
	l.Entries[3].Size = 10
	expect(t, "Unknown", all(windows.Unknown(rules(), l, 15, 10, 0)), all([]int{0}, 0))
	expect(t, "Unknown", all(windows.Unknown(rules(), l, 15, 25, 1)), all([]int{0, 3}, 0))
	expect(t, "Unknown", all(windows.Unknown(rules(), example(), 15, 10, 1)), all("[]", 0))
	far := list(-5, 10, 10, 10, 10)
	expect(t, "a head far ahead", all(windows.Attached(rules(), far, 30, 5, 1)), all([]int{0, 2, 3, 4}, 0))
	expect(t, "Attached", all(windows.Attached(rules(), lists.List{}, 0, 5, 1)), all("[]", 0))
	twice := example()
	twice.Entries[1].Item.Key = 1
	for _, x := range []struct {
		c    lists.Rules
		l    lists.List
		s, v int64
		over int
		e    api.Errno
	}{{lists.Rules{}, example(), -1, -1, -1, api.ErrConfig}, {rules(), twice, -1, -1, -1, api.ErrTwice}, {rules(), example(), -1, -1, -1, api.ErrArg}, {rules(), example(), -1, 1, -1, api.ErrRange}, {rules(), example(), 0, 1, -1, api.ErrArg}} {
		expect(t, "Attached", all(windows.Attached(x.c, x.l, x.s, x.v, x.over)), all("[]", x.e))
		expect(t, "Unknown", all(windows.Unknown(x.c, x.l, x.s, x.v, x.over)), all("[]", x.e))
	}
}

func TestP29_3Bound(t *testing.T) {
	for _, x := range []struct {
		v, least int64
		over     int
		want     int64
		e        api.Errno
	}{
		{100, 7, 2, 21, 0}, {1, 1, 0, 3, 0}, {0, 1, 0, 0, api.ErrArg}, {api.MaxView, 1, 16, api.MaxView + 34, 0}, {api.MaxView + 1, 1, 0, 0, api.ErrArg}, {1, 0, 0, 0, api.ErrArg}, {1, api.MaxHeight + 1, 0, 0, api.ErrArg},
		{1, 1, 17, 0, api.ErrArg}, {1, 1, -1, 0, api.ErrArg}, {5, api.MaxHeight, 0, 3, 0},
	} {
		expect(t, "Bound", all(windows.Bound(x.v, x.least, x.over)), all(x.want, x.e))
	}
}

func TestP29_4Enters(t *testing.T) {
	for _, x := range []struct {
		a, b, want []int
		e          api.Errno
	}{
		{[]int{0, 1, 5}, []int{1, 2, 5, 6}, []int{2, 6}, 0}, {[]int{1, 1}, nil, nil, api.ErrArg}, {nil, []int{0, 3}, []int{0, 3}, 0}, {[]int{0, 3}, nil, nil, 0}, {nil, []int{-1}, nil, api.ErrArg}, {[]int{-1, 4}, nil, nil, api.ErrArg}, {nil, []int{2, 1}, nil, api.ErrArg},
		{[]int{4, 9}, []int{4, 9}, nil, 0}, {[]int{7}, []int{3, 8}, []int{3, 8}, 0},
	} {
		got, e := windows.Enters(x.a, x.b)
		expect(t, "Enters", all(got, e, len(got) == cap(got)), all(x.want, x.e, true))
	}
}

func TestP29_5Consequences(t *testing.T) {
	for _, l := range []lists.List{example(), list(-3, 4, 5, 3, 3, 9, 4, -7, 3, 3), list(5, 5, 5)} {
		total := lists.Total(l)
		for v := int64(1); v <= total+2; v++ {
			bound, _ := windows.Bound(v, 3, 0)
			for s := int64(0); s <= max(0, total-v); s++ {
				for over := range 4 {
					got, e := windows.Attached(rules(), l, s, v, over)
					window, _ := windows.Window(l, s, v, over)
					from, to, _ := renders.Visible(l, s, v)
					outside := 0
					for _, i := range got {
						if i < window.From {
							outside++
						}
					}
					if e != api.OK || int64(len(got)) > bound+2*int64(over) || window.From > from || window.To < to || outside > 1 || len(got) != window.To-window.From+outside {
						t.Fatal(s, v, over, got)
					}
					more, _ := windows.Attached(rules(), l, s, v, over+1)
					for _, i := range got {
						if !slices.Contains(more, i) {
							t.Fatal("a row is not attached any more", i)
						}
					}
				}
			}
		}
	}
}
