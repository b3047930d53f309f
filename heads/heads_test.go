package heads_test

import (
	"fmt"
	"math"
	"testing"

	"paternoster/api"
	"paternoster/heads"
	"paternoster/lists"
	"paternoster/renders"
)

// expect fails unless two values are written alike.
func expect(t *testing.T, what string, got, want any) {
	t.Helper()
	if g, w := fmt.Sprintf("%v", got), fmt.Sprintf("%v", want); g != w {
		t.Errorf("%s: %s, expected %s", what, g, w)
	}
}

func all(l ...any) []any { return l }

// rules returns two kinds, of which the second one is Sticky.
func rules() lists.Rules {
	part := api.Part{Kind: api.Element, Tag: "a"}
	return lists.Rules{Cap: 64, Kinds: []api.Kind{{Template: part, Base: 10}, {Template: part, Base: 10, Sticky: true}}}
}

// list returns a list with sizes; those that are negative are of headers.
func list(sizes ...int64) lists.List {
	var l lists.List
	for i, size := range sizes {
		x := lists.Entry{Item: api.Item{Key: uint64(i + 1)}, Size: size, Known: true}
		if size < 0 && size > -1000 {
			x.Item.Type, x.Size = 1, -size
		}
		l.Entries = append(l.Entries, x)
	}
	return l
}

func example() lists.List { return list(10, -20, 5, -30) }

func TestP30_1OfNext(t *testing.T) {
	for _, x := range []struct {
		s, head, next int64
	}{{0, -1, 1}, {9, -1, 1}, {10, 1, 3}, {34, 1, 3}, {35, 3, -1}, {64, 3, -1}} {
		expect(t, "Of", all(heads.Of(rules(), example(), x.s)), all(max(0, x.head), x.head >= 0, 0))
		expect(t, "Next", all(heads.Next(rules(), example(), x.s)), all(max(0, x.next), x.next >= 0, 0))
	}
	expect(t, "Of", all(heads.Of(rules(), list(-5), 0)), all(0, true, 0))
	expect(t, "Next", all(heads.Next(rules(), list(5, -5), 2)), all(1, true, 0))
	for _, s := range []int64{-1, 65, math.MinInt64, math.MaxInt64} {
		expect(t, "Of", all(heads.Of(rules(), example(), s)), all(0, false, api.ErrRange))
		expect(t, "Next", all(heads.Next(rules(), example(), s)), all(0, false, api.ErrRange))
		expect(t, "Place", all(heads.Place(rules(), example(), s)), all(0, api.ErrRange))
	}
	for s, want := range map[int64]api.Errno{0: 0, 1: api.ErrRange, -1: api.ErrRange} {
		expect(t, "Of", all(heads.Of(rules(), lists.List{}, s)), all(0, false, want))
		expect(t, "Next", all(heads.Next(rules(), lists.List{}, s)), all(0, false, want))
	}
	expect(t, "Of", all(heads.Of(lists.Rules{}, example(), -1)), all(0, false, api.ErrConfig))
	expect(t, "Next", all(heads.Next(rules(), list(0), -1)), all(0, false, api.ErrHeight))
}

func TestP30_2Place(t *testing.T) {
	for s, want := range map[int64]int64{10: 0, 15: 0, 16: -1, 34: -19, 35: 0, 40: 0, 64: 0} {
		expect(t, "Place", all(heads.Place(rules(), example(), s)), all(want, 0))
	}
	expect(t, "Place", all(heads.Place(rules(), example(), 9)), all(0, api.ErrNone))
	expect(t, "Place", all(heads.Place(rules(), lists.List{}, 0)), all(0, api.ErrNone))
	expect(t, "Place", all(heads.Place(rules(), list(0), -1)), all(0, api.ErrHeight))
}

func TestP30_3SectionsHeaders(t *testing.T) {
	for _, x := range []struct {
		l       lists.List
		want    string
		headers []int
	}{
		{example(), "[{-1 0 10 10} {1 10 35 16} {3 35 65 65}]", []int{1, 3}}, {lists.List{}, "[]", nil}, {list(3, 4), "[{-1 0 7 7}]", nil}, {list(-3), "[{0 0 3 3}]", []int{0}},
		{list(-1, -1, -2, -2), "[{0 0 1 1} {1 1 2 2} {2 2 4 3} {3 4 6 6}]", []int{0, 1, 2, 3}}, {list(-3, 9, -2), "[{0 0 12 10} {2 12 14 14}]", []int{0, 2}},
	} {
		got, e := heads.Sections(rules(), x.l)
		expect(t, "Sections", all(got, e, len(got) == cap(got)), all(x.want, 0, true))
		expect(t, "Headers", all(heads.Headers(rules(), x.l)), all(x.headers, 0))
	}
	expect(t, "Sections", all(heads.Sections(lists.Rules{}, example())), all("[]", api.ErrConfig))
	expect(t, "Headers", all(heads.Headers(rules(), list(0))), all("[]", api.ErrHeight))
}

func TestP30_4At(t *testing.T) {
	x := []heads.Section{{Head: 5, From: 3, To: 3}, {Head: 1, From: 0, To: 4}, {Head: 2, From: -9, To: 9, Push: 7}}
	expect(t, "At", all(heads.At(x, 3)), all(x[1], 0))
	expect(t, "At", all(heads.At(x, 4)), all(x[2], 0))
	expect(t, "At", all(heads.At(x, -9)), all(x[2], 0))
	expect(t, "At", all(heads.At(x, 9)), all(heads.Section{}, api.ErrNone))
	expect(t, "At", all(heads.At(nil, 0)), all(heads.Section{}, api.ErrNone))
}

func TestP30_5Consequences(t *testing.T) {
	for _, l := range []lists.List{example(), list(-3, 4, -1, -1, 5, 5, -9), list(2, 2, -4, 7), list(-1)} {
		sections, _ := heads.Sections(rules(), l)
		headers, _ := heads.Headers(rules(), l)
		end, many := int64(0), 0
		for k, x := range sections {
			if x.From != end || x.To <= x.From || x.Push < x.From || x.Push > x.To {
				t.Fatal(sections)
			}
			end = x.To
			if x.Head >= 0 {
				many++
			}
			for s := x.From; s < x.To; s++ {
				at, found, _ := heads.Of(rules(), l, s)
				place, e := heads.Place(rules(), l, s)
				if !found && x.Head >= 0 || found && (at != x.Head || e != api.OK || place != min(0, x.Push-1-s)) {
					t.Fatal(s, x, at, place)
				}
				slice, f := renders.Slice(rules(), l, s, 1)
				if f != api.OK || slice.Pinned != found || found && (slice.Head.Top != place || slice.Head.Key != uint64(at+1)) {
					t.Fatal("the head of renders is another one", s, slice, place)
				}
				if k+1 < len(sections) && found && s == x.To-1 && place != 1-l.Entries[at].Size {
					t.Fatal("the last offset", s, place)
				}
			}
		}
		expect(t, "the sections", all(end, many), all(lists.Total(l), len(headers)))
	}
}
