package layouts_test

import (
	"fmt"
	"math"
	"slices"
	"testing"

	"paternoster/anchors"
	"paternoster/api"
	"paternoster/heads"
	"paternoster/layouts"
	"paternoster/lists"
	"paternoster/renders"
	"paternoster/settles"
	"paternoster/windows"
)

// expect fails unless two values are written alike.
func expect(t *testing.T, what string, got, want any) {
	t.Helper()
	if g, w := fmt.Sprintf("%v", got), fmt.Sprintf("%v", want); g != w {
		t.Errorf("%s: %s, expected %s", what, g, w)
	}
}

func all(l ...any) []any { return l }

func frame(view int64, over int) layouts.Frame { return layouts.Frame{View: view, Over: over} }

// layout returns a layout with sizes; those that are negative are of headers.
func layout(t *testing.T, sizes ...int64) *layouts.Layout {
	t.Helper()
	l := layouts.New()
	for i, size := range sizes {
		sticky := size < 0 && size > -1000
		if sticky {
			size = -size
		}
		if e := l.Insert(i, []int64{size}, []bool{sticky}); e != api.OK {
			t.Fatal(e)
		}
	}
	return l
}

func example(t *testing.T) *layouts.Layout { return layout(t, -10, 20, 30, -5) }

// written writes a layout down.
func written(l *layouts.Layout) string {
	var out []string
	for i := range l.Len() {
		size, _ := l.Size(i)
		known, _ := l.Known(i)
		sticky, _ := l.Sticky(i)
		out = append(out, fmt.Sprintf("%d%s%s", size, map[bool]string{true: "!"}[known], map[bool]string{true: "h"}[sticky]))
	}
	return fmt.Sprintf("%v%d", out, l.Total())
}

func TestP34_1NewCopyLenTotal(t *testing.T) {
	expect(t, "New", all(written(layouts.New()), written(&layouts.Layout{})), all("[]0", "[]0"))
	l := example(t)
	c := l.Copy()
	l.Set(0, 7, true)
	c.Remove(1, 1)
	c.Mark(0, false)
	expect(t, "Copy", all(written(l), written(c)), all("[7!h 20 30 5h]62", "[10 30 5h]45"))
}

func TestP34_2Rows(t *testing.T) {
	l := example(t)
	expect(t, "Top", all(l.Top(2)), all(30, 0))
	expect(t, "Top", all(l.Top(4)), all(65, 0))
	expect(t, "At", all(l.At(31)), all(2, 1, 0))
	expect(t, "At", all(l.At(65)), all(0, 0, api.ErrRange))
	for _, i := range []int{-1, 5, math.MaxInt, math.MinInt} {
		expect(t, "Top", all(l.Top(i)), all(0, api.ErrRange))
		expect(t, "Size", all(l.Size(i)), all(0, api.ErrRange))
		expect(t, "Known", all(l.Known(i)), all(false, api.ErrRange))
		expect(t, "Sticky", all(l.Sticky(i)), all(false, api.ErrRange))
	}
	expect(t, "Sticky", all(l.Sticky(3)), all(true, 0))
	expect(t, "Sticky", all(l.Sticky(4)), all(false, api.ErrRange))
}

func TestP34_3InsertRemoveMove(t *testing.T) {
	l := example(t)
	l.Set(1, 21, true)
	expect(t, "Insert", all(l.Insert(1, []int64{3, 4}, []bool{false, true}), written(l)), all(0, "[10h 3 4h 21! 30 5h]73"))
	expect(t, "Move", all(l.Move(2, 2, 0), written(l)), all(0, "[4h 21! 10h 3 30 5h]73"))
	expect(t, "Remove", all(l.Remove(1, 2), written(l)), all(0, "[4h 3 30 5h]42"))
	big := slices.Repeat([]int64{1}, api.MaxItems)
	for _, x := range []struct{ got, want api.Errno }{
		{l.Insert(9, []int64{0}, nil), api.ErrArg}, {l.Insert(9, []int64{0}, []bool{true}), api.ErrRange}, {l.Insert(0, []int64{0}, []bool{true}), api.ErrHeight}, {l.Insert(0, big, make([]bool, api.MaxItems)), api.ErrLimit},
		{l.Insert(0, []int64{api.MaxHeight, api.MaxHeight}, []bool{true, true}), api.ErrOverflow}, {l.Remove(-1, 1), api.ErrRange}, {l.Remove(3, 2), api.ErrRange}, {l.Move(0, 2, 3), api.ErrRange}, {l.Move(3, 2, 0), api.ErrRange},
	} {
		expect(t, "refused", all(x.got, written(l)), all(x.want, "[4h 3 30 5h]42"))
	}
}

func TestP34_4SetMark(t *testing.T) {
	l := example(t)
	expect(t, "Set", all(l.Set(1, 5, true), l.Set(1, 6, false), l.Set(2, 9, true), l.Mark(0, false), l.Mark(1, true), written(l)), all(0, 0, 0, 0, 0, "[10 6h 9! 5h]30"))
	expect(t, "refused", all(l.Set(4, 0, true), l.Set(0, 0, true), l.Set(0, api.MaxHeight+1, true), l.Mark(4, true), l.Mark(-1, true), written(l)), all(api.ErrRange, api.ErrHeight, api.ErrHeight, api.ErrRange, api.ErrRange, "[10 6h 9! 5h]30"))
	expect(t, "Set", all(l.Set(0, api.MaxHeight, true), l.Set(1, api.MaxHeight, true)), all(0, api.ErrOverflow))
}

func badFrames() []layouts.Frame {
	return []layouts.Frame{frame(0, 0), frame(-1, 0), frame(api.MaxView+1, 0), frame(5, -1), frame(5, 17), {}}
}

func TestP34_5ClampWindow(t *testing.T) {
	l := example(t)
	f := frame(25, 0)
	expect(t, "Clamp", all(l.Clamp(f, 100)), all(40, 0))
	expect(t, "Clamp", all(l.Clamp(f, -1)), all(0, 0))
	expect(t, "Clamp", all(l.Clamp(frame(66, 0), math.MaxInt64)), all(0, 0))
	for s, want := range map[int64][2]int{0: {0, 2}, 10: {1, 3}, 40: {2, 4}, 5: {0, 2}, 6: {0, 3}} {
		expect(t, "Window", all(l.Window(f, s)), all(want[0], want[1], 0))
	}
	expect(t, "Window", all(l.Window(frame(25, 1), 10)), all(0, 4, 0))
	for _, s := range []int64{41, -1, math.MaxInt64, math.MinInt64} {
		expect(t, "Window", all(l.Window(f, s)), all(0, 0, api.ErrRange))
	}
	expect(t, "Window", all(layouts.New().Window(f, 0)), all(0, 0, 0))
	expect(t, "Window", all(layouts.New().Window(f, 1)), all(0, 0, api.ErrRange))
	for _, f := range badFrames() {
		expect(t, "Clamp", all(l.Clamp(f, 0)), all(0, api.ErrArg))
		expect(t, "Window", all(l.Window(f, -1)), all(0, 0, api.ErrArg))
		expect(t, "Attached", all(l.Attached(f, -1)), all("[]", api.ErrArg))
		expect(t, "Settle", all(l.Settle(f, 99, -1, nil)), all(0, 0, api.ErrArg))
	}
}

func TestP34_6HeadPlace(t *testing.T) {
	l := example(t)
	for s, want := range map[int64][2]int{0: {0, 0}, 40: {0, 0}, 50: {0, 0}, 51: {0, -1}, 55: {0, -5}, 59: {0, -9}, 60: {3, 0}, 64: {3, 0}} {
		expect(t, "Head", all(l.Head(s)), all(want[0], 0))
		expect(t, "Place", all(l.Place(s)), all(want[1], 0))
	}
	for _, s := range []int64{-1, 65, math.MaxInt64} {
		expect(t, "Head", all(l.Head(s)), all(0, api.ErrRange))
		expect(t, "Place", all(l.Place(s)), all(0, api.ErrRange))
	}
	none := layout(t, 5, 6)
	expect(t, "Head", all(none.Head(0)), all(0, api.ErrNone))
	expect(t, "Place", all(none.Place(0)), all(0, api.ErrNone))
	expect(t, "Head", all(layouts.New().Head(0)), all(0, api.ErrNone))
	expect(t, "Head", all(layouts.New().Head(1)), all(0, api.ErrRange))
	expect(t, "Head", all(layout(t, 5, -6).Head(4)), all(0, api.ErrNone))
}

func TestP34_7Attached(t *testing.T) {
	l := example(t)
	expect(t, "Attached", all(l.Attached(frame(25, 0), 10)), all([]int{0, 1, 2}, 0))
	expect(t, "Attached", all(l.Attached(frame(25, 0), 40)), all([]int{0, 2, 3}, 0))
	expect(t, "Attached", all(l.Attached(frame(5, 0), 60)), all([]int{3}, 0))
	expect(t, "Attached", all(l.Attached(frame(5, 2), 60)), all([]int{1, 2, 3}, 0))
	expect(t, "Attached", all(l.Attached(frame(5, 2), 61)), all("[]", api.ErrRange))
	expect(t, "Attached", all(layouts.New().Attached(frame(5, 2), 0)), all("[]", 0))
}

func TestP34_8Settle(t *testing.T) {
	f := frame(25, 0)
	same := func(x int64) func(int) int64 { return func(int) int64 { return x } }
	l := example(t)
	expect(t, "Settle", all(l.Settle(f, 1, 0, same(20))), all(20, 1, 0))
	expect(t, "Settle", written(l), "[20!h 20! 20! 5h]65")
	l = example(t)
	expect(t, "Settle", all(l.Settle(f, 1, 0, same(5))), all(0, 2, 0))
	expect(t, "Settle", written(l), "[5!h 5! 5! 5!h]20")
	l = example(t)
	expect(t, "Settle without an anchor", all(l.Settle(f, -1, 7, same(9))), all(0, 2, 0))
	expect(t, "Settle", written(l), "[9!h 9! 9! 5h]32")
	l = example(t)
	before := written(l)
	for _, x := range []struct {
		anchor  int
		delta   int64
		measure func(int) int64
		e       api.Errno
	}{
		{1, 0, nil, api.ErrArg}, {9, -1, nil, api.ErrArg}, {4, 0, same(1), api.ErrRange}, {-2, 0, same(1), api.ErrRange}, {0, -1, same(1), api.ErrRange}, {0, api.MaxHeight + 1, same(1), api.ErrRange}, {1, 0, same(0), api.ErrHeight}, {1, 0, same(api.MaxHeight + 1), api.ErrHeight},
		{1, 0, same(api.MaxHeight), api.ErrOverflow}, {1, 0, func(i int) int64 { return []int64{api.MaxHeight, api.MaxHeight, 0, 0}[i] }, api.ErrOverflow}, {1, 0, func(i int) int64 { return []int64{5, 0, api.MaxHeight, 0}[i] }, api.ErrHeight},
	} {
		expect(t, "Settle", all(l.Settle(f, x.anchor, x.delta, x.measure)), all(0, 0, x.e))
		expect(t, "what was refused", written(l), before)
	}
	expect(t, "Settle with what panics", all(l.Settle(f, 1, 0, func(int) int64 { panic("stop") })), all(0, 0, api.ErrArg))
	expect(t, "what was refused", written(l), before)
	expect(t, "Settle of no rows", all(layouts.New().Settle(f, -1, 0, same(1))), all(0, 0, 0))
}

func TestP34_8Loose(t *testing.T) {
	f := frame(20, 0)
	measure := func(i int) int64 { return []int64{30, 10, 10, 10}[i] }
	tight, loose := layout(t, -10, 10, 10, 10), layout(t, -10, 10, 10, 10)
	expect(t, "Settle", all(tight.Settle(f, 2, 0, measure)), all(40, 1, 0))
	f.Loose = true
	expect(t, "Settle loosely", all(loose.Settle(f, 2, 0, measure)), all(20, 2, 0))
	expect(t, "Settle loosely", all(written(tight), written(loose)), all("[30!h 10 10! 10!]60", "[30!h 10! 10! 10!]60"))
	shrunk := layout(t, 10, 10, 10, 10)
	expect(t, "Settle loosely", all(shrunk.Settle(f, 3, 0, func(int) int64 { return 4 })), all(0, 2, 0))
}

// TestP34_9Consequences compares layouts with lists.
func TestP34_9Consequences(t *testing.T) {
	seed := uint32(59)
	next := func(n int) int {
		seed = seed*1664525 + 1013904223
		return int(seed>>8) % n
	}
	part := api.Part{Kind: api.Element, Tag: "a"}
	rules := lists.Rules{Cap: 64, Kinds: []api.Kind{{Template: part, Base: 9}, {Template: part, Base: 5, Sticky: true}}}
	for range 400 {
		var list lists.List
		l := layouts.New()
		heights := map[int]int64{}
		var table []api.Height
		for i := range next(25) {
			x := lists.Entry{Item: api.Item{Key: uint64(i + 1), Type: uint8(next(4) / 3)}}
			x.Size = rules.Kinds[x.Item.Type].Base
			l.Insert(i, []int64{x.Size}, []bool{x.Item.Type == 1})
			if next(3) == 0 {
				x.Size, x.Known = int64(1+next(15)), true
				l.Set(i, x.Size, true)
			}
			heights[i] = rules.Kinds[x.Item.Type].Base
			if next(2) == 0 {
				heights[i] = int64(1 + next(15))
				table = append(table, api.Height{Key: x.Item.Key, Size: heights[i]})
			}
			list.Entries = append(list.Entries, x)
		}
		f := frame(int64(1+next(50)), next(3))
		total := lists.Total(list)
		for s := int64(0); s <= max(0, total-f.View); s++ {
			want, _ := windows.Attached(rules, list, s, f.View, f.Over)
			got, e := l.Attached(f, s)
			at, found, _ := heads.Of(rules, list, s)
			place, _ := heads.Place(rules, list, s)
			head, g := l.Head(s)
			there, _ := l.Place(s)
			if e != api.OK || !slices.Equal(got, want) || found != (g == api.OK) || head != at || there != place {
				t.Fatal(written(l), s, got, want, head, at, there, place)
			}
			if i, e := renders.At(list, s); e == api.OK {
				k, _, _ := l.At(s)
				expect(t, "At", k, i)
			}
		}
		a, anchor := anchors.Anchor{}, -1
		if n := len(list.Entries); n > 0 && next(5) > 0 {
			anchor = next(n)
			a = anchors.Anchor{Key: uint64(anchor + 1), Delta: int64(next(12))}
		}
		want, e := settles.Settle(settles.Frame{Rules: rules, View: f.View, Over: f.Over, Least: 1}, list, a, table)
		s, rounds, g := l.Settle(f, anchor, a.Delta, func(i int) int64 { return heights[i] })
		if e|g != 0 || s != want.Offset || rounds != want.Rounds {
			t.Fatal(e, g, s, rounds, want)
		}
		for i, x := range want.List.Entries {
			size, _ := l.Size(i)
			known, _ := l.Known(i)
			expect(t, "a row behind Settle", all(size, known), all(x.Size, x.Known))
		}
		before := written(l)
		again, rounds, _ := l.Settle(f, anchor, a.Delta, func(int) int64 { return 1 })
		expect(t, "settling again", all(again, rounds, written(l)), all(s, 0, before))
	}
}

func TestNil(t *testing.T) {
	var l *layouts.Layout
	expect(t, "nil", all(l.Copy() == nil, l.Len(), l.Total(), l.Insert(0, nil, nil), l.Remove(0, 0), l.Move(0, 0, 0), l.Set(0, 0, true), l.Mark(0, true)), all(true, 0, 0, 2, 2, 2, 2, 2))
	f := frame(5, 0)
	expect(t, "nil", all(l.Top(0)), all(0, 2))
	expect(t, "nil", all(l.Size(0)), all(0, 2))
	expect(t, "nil", all(l.Known(0)), all(false, 2))
	expect(t, "nil", all(l.Sticky(0)), all(false, 2))
	expect(t, "nil", all(l.At(0)), all(0, 0, 2))
	expect(t, "nil", all(l.Clamp(f, 0)), all(0, 2))
	expect(t, "nil", all(l.Window(f, 0)), all(0, 0, 2))
	expect(t, "nil", all(l.Head(0)), all(0, 2))
	expect(t, "nil", all(l.Place(0)), all(0, 2))
	expect(t, "nil", all(l.Attached(f, 0)), all("[]", 2))
	expect(t, "nil", all(l.Settle(f, 0, 0, nil)), all(0, 0, 2))
}
