package settles_test

import (
	"fmt"
	"strings"
	"testing"

	"paternoster/anchors"
	"paternoster/api"
	"paternoster/lists"
	"paternoster/settles"
	"paternoster/tables"
	"paternoster/windows"
)

// expect fails unless two values are written alike.
func expect(t *testing.T, what string, got, want any) {
	t.Helper()
	if g, w := fmt.Sprintf("%v", got), fmt.Sprintf("%v", want); g != w {
		t.Errorf("%s: %s, expected %s", what, g, w)
	}
}

func all(l ...any) []any { return l }

// frame returns a frame with three kinds: rows, headers, and rows of any height.
func frame(view int64, over int) settles.Frame {
	part := api.Part{Kind: api.Element, Tag: "a"}
	kinds := []api.Kind{{Template: part, Base: 10}, {Template: part, Base: 6, Sticky: true}, {Template: part, Base: api.MaxHeight}}
	return settles.Frame{Rules: lists.Rules{Cap: 64, Kinds: kinds}, View: view, Over: over, Least: 1}
}

// list returns fresh entries; keys from 100 on are headers, from 200 on of any height.
func list(keys ...uint64) lists.List {
	var l lists.List
	f := frame(1, 0)
	for _, key := range keys {
		kind := uint8(key / 100)
		l.Entries = append(l.Entries, lists.Entry{Item: api.Item{Key: key, Type: kind}, Size: f.Rules.Kinds[kind].Base})
	}
	return l
}

func at(key uint64, delta int64) anchors.Anchor { return anchors.Anchor{Key: key, Delta: delta} }

// table returns heights for numbers that are taken in pairs.
func table(l ...int64) []api.Height {
	var out []api.Height
	for i := 0; i < len(l); i += 2 {
		out = append(out, api.Height{Key: uint64(l[i]), Size: l[i+1]})
	}
	return out
}

// written writes a result down.
func written(r settles.Result) string {
	var out []string
	for _, x := range r.List.Entries {
		known := ""
		if x.Known {
			known = "!"
		}
		out = append(out, fmt.Sprintf("%d%s", x.Size, known))
	}
	return fmt.Sprint(strings.Join(out, " "), " at ", r.Offset, " in ", r.Rounds)
}

// wrong is what is refused, and its error.
type wrong struct {
	f     settles.Frame
	l     lists.List
	a     anchors.Anchor
	table []api.Height
	e     api.Errno
}

func wrongs() []wrong {
	least := frame(20, 0)
	least.Least = 5
	none := frame(0, 0)
	none.Rules.Kinds = nil
	zero, big := frame(20, 0), frame(20, 0)
	zero.Least, big.Least = 0, api.MaxHeight+1
	return []wrong{
		{frame(0, 0), list(1), at(1, 0), nil, api.ErrArg}, {none, list(1), at(1, 0), nil, api.ErrConfig}, {frame(api.MaxView+1, 0), list(1, 1), at(1, 0), nil, api.ErrArg}, {frame(20, -1), list(1), at(1, 0), nil, api.ErrArg},
		{frame(20, 17), list(1), at(1, 0), nil, api.ErrArg}, {zero, list(1), at(1, 0), nil, api.ErrArg}, {big, list(1), at(1, 0), nil, api.ErrArg}, {frame(20, 0), list(1, 1), at(0, -1), table(0, 0), api.ErrTwice},
		{frame(20, 0), list(1), at(0, -1), table(0, 0), api.ErrKey}, {least, list(1), at(1, 0), table(1, 4), api.ErrHeight}, {frame(20, 0), list(1), at(9, 0), table(2, 25, 2, 26), api.ErrTwice},
		{frame(20, 0), list(1), at(9, -1), nil, api.ErrArg}, {frame(20, 0), list(1), at(0, 1), nil, api.ErrArg}, {frame(20, 0), list(1), at(9, 0), nil, api.ErrNone}, {frame(20, 0), list(), at(9, 0), nil, api.ErrNone},
		{frame(20, 0), list(1), at(1, 0), make([]api.Height, 257), api.ErrLimit},
	}
}

func TestP31_1ValidCheck(t *testing.T) {
	for _, f := range []settles.Frame{frame(1, 0), frame(api.MaxView, api.MaxOver)} {
		expect(t, "Valid", all(settles.Valid(f), settles.Check(f, list(1, 2), at(2, 7), table(2, 25, 99, 3)), settles.Check(f, list(), at(0, 0), nil)), all(0, 0, 0))
	}
	for _, x := range wrongs() {
		expect(t, "Check", settles.Check(x.f, x.l, x.a, x.table), x.e)
		r, more, e := settles.Round(x.f, x.l, x.a, x.table)
		expect(t, "Round", all(r, more, e), all(settles.Result{}, false, x.e))
		r, e = settles.Settle(x.f, x.l, x.a, x.table)
		expect(t, "Settle", all(r, e), all(settles.Result{}, x.e))
	}
	greatest := frame(1, 0)
	greatest.Least = api.MaxHeight
	expect(t, "Valid", settles.Valid(greatest), api.OK)
	f := frame(0, 0)
	f.Rules.Cap = 0
	expect(t, "Valid", all(settles.Valid(f), settles.Valid(frame(0, 0))), all(api.ErrConfig, api.ErrArg))
}

func TestP31_2Measure(t *testing.T) {
	f := frame(0, 0)
	for _, x := range []struct {
		item  api.Item
		table []api.Height
		want  int64
	}{
		{api.Item{Key: 2}, table(2, 25), 25}, {api.Item{Key: 2}, table(3, 25), 10}, {api.Item{Key: 2, Type: 1}, nil, 6}, {api.Item{Key: 2, Type: 3}, nil, 0}, {api.Item{Key: 2, Type: 3}, table(2, -7, 2, 5), -7}, {api.Item{}, table(0, 9), 9},
	} {
		expect(t, "Measure", settles.Measure(f, x.item, x.table), x.want)
	}
}

func TestP31_3Round(t *testing.T) {
	l := list(1, 2, 3, 4)
	heights := table(2, 25, 4, 1)
	for i, want := range []string{"10 10 10! 1! at 20 in 1 true", "10 25! 10! 1! at 11 in 1 true", "10 25! 10! 1! at 26 in 0 false"} {
		r, more, e := settles.Round(frame(20, 0), l, at(4, 0), heights)
		expect(t, fmt.Sprint("Round ", i), fmt.Sprint(written(r), " ", more, " ", e), want+" 0")
		l = r.List
	}
	r, more, e := settles.Round(frame(20, 0), list(), at(0, 0), nil)
	expect(t, "Round of no entries", fmt.Sprint(written(r), more, e), " at 0 in 0false 0")
	r, more, e = settles.Round(frame(20, 0), list(200, 1, 2), at(1, 0), table(1, api.MaxHeight, 2, 1))
	expect(t, "Round", all(r, more, e), all(settles.Result{}, false, api.ErrOverflow))
	r, more, e = settles.Round(frame(20, 0), list(200, 1, 2), at(1, 0), table(1, api.MaxHeight-10, 2, 10))
	expect(t, "Round to the greatest total", all(lists.Total(r.List), more, e), all(api.MaxTotal, true, 0))
	r, more, e = settles.Round(frame(20, 0), list(200, 1, 2), at(1, 0), table(1, api.MaxHeight-5, 2, 1))
	expect(t, "the total behind one of the rows counts", all(r, more, e), all(settles.Result{}, false, api.ErrOverflow))
}

func TestP31_4Settle(t *testing.T) {
	for _, x := range []struct {
		f     settles.Frame
		l     lists.List
		a     anchors.Anchor
		table []api.Height
		want  string
	}{
		{frame(20, 0), list(1, 2, 3, 4), at(1, 0), table(2, 25), "10! 25! 10 10 at 0 in 1"}, {frame(20, 0), list(1, 2, 3, 4), at(2, 5), table(2, 25), "10 25! 10! 10! at 15 in 1"},
		{frame(20, 0), list(1, 2, 3, 4), at(4, 0), table(2, 25), "10 10 10! 10! at 20 in 1"}, {frame(20, 0), list(1, 2, 3, 4), at(4, 0), table(2, 25, 4, 1), "10 25! 10! 1! at 26 in 2"},
		{frame(20, 1), list(1, 2, 3, 4, 5), at(0, 0), nil, "10! 10! 10! 10 10 at 0 in 1"}, {frame(20, 0), list(100, 1, 2, 3, 4), at(3, 0), table(100, 9), "9! 10 10 10! 10! at 29 in 1"},
		{frame(20, 0), list(1, 2, 3, 4, 5, 6), at(1, 0), table(1, 1, 2, 1, 3, 1, 4, 1, 5, 1, 6, 1), "1! 1! 1! 1! 1! 1! at 0 in 3"}, {frame(5, 2), list(), at(0, 0), table(1, 1), " at 0 in 0"},
	} {
		r, e := settles.Settle(x.f, x.l, x.a, x.table)
		expect(t, "Settle", all(written(r), e), all(x.want, 0))
		for _, y := range x.l.Entries {
			expect(t, "the argument", y.Known, false)
		}
	}
	r, e := settles.Settle(frame(20, 0), list(200, 1, 2), at(1, 0), table(1, api.MaxHeight, 2, 1))
	expect(t, "Settle", all(r, e), all(settles.Result{}, api.ErrOverflow))
}

// TestP31_5Consequences settles lists whose heights follow a fixed rule.
func TestP31_5Consequences(t *testing.T) {
	seed := uint32(43)
	next := func(n int) int {
		seed = seed*1664525 + 1013904223
		return int(seed>>8) % n
	}
	for range 500 {
		var keys []uint64
		var heights []api.Height
		for i := range next(20) {
			keys = append(keys, uint64(i+1+100*(next(4)/3)))
			if next(2) == 0 {
				heights = append(heights, api.Height{Key: keys[i], Size: int64(1 + next(20))})
			}
		}
		l := list(keys...)
		var a anchors.Anchor
		if len(keys) > 0 {
			k := next(len(keys))
			a = at(keys[k], int64(next(12)))
			for range next(5) {
				i := next(len(keys))
				l.Entries[i].Known, l.Entries[i].Size = true, int64(1+next(20))
			}
		}
		unknown := 0
		for _, x := range l.Entries {
			if !x.Known {
				unknown++
			}
		}
		f := frame(int64(1+next(60)), next(3))
		r, e := settles.Settle(f, l, a, heights)
		left, g := windows.Unknown(f.Rules, r.List, r.Offset, f.View, f.Over)
		offset, h := anchors.Offset(r.List, f.View, a)
		end := max(0, lists.Total(r.List)-f.View)
		if e|g|h != 0 || r.Rounds > unknown || len(left) > 0 || offset != r.Offset || !anchors.Held(r.List, r.Offset, a) && r.Offset != end && r.Offset != 0 {
			t.Fatal(e, written(r), left, offset)
		}
		again, _ := settles.Settle(f, r.List, a, heights)
		if again.Rounds != 0 || !lists.Same(again.List, r.List) || again.Offset != r.Offset {
			t.Fatal("settling again changes something")
		}
		for i, x := range l.Entries {
			y := r.List.Entries[i]
			size, found := tables.Find(heights, x.Item.Key)
			if !found {
				size = f.Rules.Kinds[x.Item.Type].Base
			}
			if x.Item.Key != y.Item.Key || (x.Known || !y.Known) && (x.Size != y.Size || x.Known != y.Known) || !x.Known && y.Known && y.Size != size {
				t.Fatal("a row that was Known has changed, or one that was not attached")
			}
		}
	}
}
