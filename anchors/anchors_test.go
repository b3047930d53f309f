package anchors_test

import (
	"fmt"
	"math"
	"testing"

	"paternoster/anchors"
	"paternoster/api"
	"paternoster/lists"
)

// expect fails unless two values are written alike.
func expect(t *testing.T, what string, got, want any) {
	t.Helper()
	if g, w := fmt.Sprintf("%v", got), fmt.Sprintf("%v", want); g != w {
		t.Errorf("%s: %s, expected %s", what, g, w)
	}
}

func all(l ...any) []any { return l }

// of returns a list with keys; the key k has the size of the example.
func of(keys ...uint64) lists.List {
	var l lists.List
	for _, key := range keys {
		size := int64(1)
		if key >= 1 && key <= 4 {
			size = []int64{10, 20, 5, 30}[key-1]
		}
		l.Entries = append(l.Entries, lists.Entry{Item: api.Item{Key: key}, Size: size})
	}
	return l
}

func example() lists.List { return of(1, 2, 3, 4) }

func at(key uint64, delta int64) anchors.Anchor { return anchors.Anchor{Key: key, Delta: delta} }

func bad() map[api.Errno]lists.List {
	return map[api.Errno]lists.List{
		api.ErrLimit:    {Entries: make([]lists.Entry, api.MaxItems+1)},
		api.ErrHeight:   {Entries: make([]lists.Entry, 1)},
		api.ErrOverflow: {Entries: []lists.Entry{{Size: api.MaxHeight}, {Size: api.MaxHeight}, {Size: 1}}},
	}
}

func TestP28_1ClampSum(t *testing.T) {
	for _, x := range [][3]int64{{40, 70, 25}, {40, -3, 0}, {100, 70, 0}, {65, 9, 0}, {64, 9, 1}, {1, math.MaxInt64, 64}, {1, math.MinInt64, 0}, {1, 33, 33}, {api.MaxView, 1, 0}} {
		expect(t, "Clamp", all(anchors.Clamp(example(), x[0], x[1])), all(x[2], 0))
	}
	for _, v := range []int64{0, -1, api.MaxView + 1, math.MinInt64} {
		expect(t, "Clamp", all(anchors.Clamp(example(), v, 0)), all(0, api.ErrArg))
	}
	for e, l := range bad() {
		expect(t, "Clamp", all(anchors.Clamp(l, 0, 0)), all(0, e))
		expect(t, "Of", all(anchors.Of(l, -1)), all(anchors.Anchor{}, e))
		expect(t, "Offset", all(anchors.Offset(l, 0, at(0, -1))), all(0, e))
		expect(t, "Held", all(anchors.Held(l, 0, anchors.Anchor{}), anchors.Held(l, 0, at(0, 0))), all(false, false))
	}
	for _, x := range [][3]int64{{3, -5, -2}, {math.MaxInt64, 1, math.MaxInt64}, {1, math.MaxInt64, math.MaxInt64}, {math.MinInt64, -1, math.MinInt64}, {-1, math.MinInt64, math.MinInt64},
		{math.MinInt64, math.MaxInt64, -1}, {math.MaxInt64, math.MinInt64, -1}, {math.MaxInt64, 0, math.MaxInt64}, {math.MaxInt64 - 1, 1, math.MaxInt64}, {math.MinInt64, math.MinInt64, math.MinInt64}} {
		expect(t, "Sum", anchors.Sum(x[0], x[1]), x[2])
	}
}

func TestP28_2OfCheck(t *testing.T) {
	for s, want := range map[int64]anchors.Anchor{0: at(1, 0), 9: at(1, 9), 10: at(2, 0), 29: at(2, 19), 30: at(3, 0), 64: at(4, 29)} {
		expect(t, "Of", all(anchors.Of(example(), s)), all(want, 0))
	}
	for _, s := range []int64{-1, 65, math.MaxInt64, math.MinInt64} {
		expect(t, "Of", all(anchors.Of(example(), s)), all(anchors.Anchor{}, api.ErrRange))
	}
	expect(t, "Of", all(anchors.Of(lists.List{}, 0)), all(anchors.Anchor{}, 0))
	expect(t, "Of", all(anchors.Of(lists.List{}, 1)), all(anchors.Anchor{}, api.ErrRange))
	for _, a := range []anchors.Anchor{{}, at(1, 0), at(math.MaxUint64, api.MaxHeight)} {
		expect(t, "Check", anchors.Check(a), api.OK)
	}
	for _, a := range []anchors.Anchor{at(0, 1), at(1, -1), at(1, api.MaxHeight+1), at(0, -1), at(5, math.MinInt64)} {
		expect(t, "Check", anchors.Check(a), api.ErrArg)
	}
}

func TestP28_3After(t *testing.T) {
	for _, x := range []struct {
		before, now lists.List
		a, want     anchors.Anchor
	}{
		{of(1, 2, 3, 4), of(1, 4, 3), at(2, 19), at(3, 0)}, {of(1, 2, 3, 4), of(1), at(2, 19), at(1, 0)}, {of(1, 2, 3, 4), of(), at(2, 19), at(0, 0)}, {of(1, 2, 3, 4), of(4, 2), at(2, 19), at(2, 19)},
		{of(), of(4, 2), at(0, 0), at(4, 0)}, {of(1, 2), of(8, 9), at(2, 7), at(8, 0)}, {of(1, 2), of(2, 1), at(7, 7), at(2, 0)}, {of(), of(2, 1), at(1, 7), at(1, 7)}, {of(1, 2, 3, 4), of(1, 2), at(3, 1), at(2, 0)},
		{of(1, 2, 3, 4), of(2, 1, 4), at(3, 0), at(4, 0)}, {of(1, 2, 1, 3), of(3, 2), at(1, 5), at(2, 0)}, {of(1), of(), at(0, 9), at(0, 0)}, {of(5), of(1), at(0, -9), at(1, 0)}, {of(5), of(5), at(5, -9), at(5, -9)},
	} {
		expect(t, "After", anchors.After(x.before, x.now, x.a), x.want)
	}
}

func TestP28_4Offset(t *testing.T) {
	for _, x := range []struct {
		v    int64
		a    anchors.Anchor
		want int64
		e    api.Errno
	}{
		{20, at(2, 19), 29, 0}, {60, at(2, 19), 5, 0}, {20, at(9, 0), 0, api.ErrNone}, {20, at(0, 0), 0, 0}, {1, at(4, api.MaxHeight), 64, 0}, {0, at(0, 1), 0, api.ErrArg}, {20, at(0, 1), 0, api.ErrArg},
		{20, at(9, -1), 0, api.ErrArg}, {api.MaxView + 1, at(1, 0), 0, api.ErrArg}, {5, at(1, 25), 25, 0},
	} {
		expect(t, "Offset", all(anchors.Offset(example(), x.v, x.a)), all(x.want, x.e))
	}
}

func TestP28_5Held(t *testing.T) {
	for _, x := range []struct {
		s    int64
		a    anchors.Anchor
		want bool
	}{
		{29, at(2, 19), true}, {5, at(2, 19), false}, {10, at(2, 0), true}, {9, at(2, -1), false}, {9, at(7, 0), false}, {-5, at(0, 0), true}, {3, at(0, 9), true}, {math.MinInt64, at(4, 5), false}, {math.MaxInt64, at(1, math.MaxInt64), true},
	} {
		expect(t, "Held", anchors.Held(example(), x.s, x.a), x.want)
	}
	expect(t, "Held", anchors.Held(lists.List{}, 0, anchors.Anchor{}), true)
}

func TestP28_6Consequences(t *testing.T) {
	for _, l := range []lists.List{example(), of(4, 9, 2, 8, 1), of(7)} {
		total := lists.Total(l)
		for v := int64(1); v < total+4; v++ {
			end := max(0, total-v)
			for s := int64(0); s < total; s++ {
				a, _ := anchors.Of(l, s)
				got, e := anchors.Offset(l, v, a)
				if e != api.OK || s <= end && got != s || s > end && got != end || s <= end && !anchors.Held(l, got, a) {
					t.Fatal(v, s, got, a)
				}
			}
		}
		for s := int64(0); s < total; s++ {
			a, _ := anchors.Of(l, s)
			for _, now := range []lists.List{of(2, 4), of(9), of(1, 2, 3), l, of()} {
				b := anchors.After(l, now, a)
				_, there := lists.Find(now, b.Key)
				_, survives := lists.Find(now, a.Key)
				if there != (len(now.Entries) > 0) || survives && a != b {
					t.Fatal(a, b)
				}
			}
		}
	}
	near, far := of(1, 2, 3), of(1, 2, 4, 3)
	a, _ := anchors.Of(near, 15)
	x, _ := anchors.Offset(near, 5, a)
	y, _ := anchors.Offset(far, 5, a)
	expect(t, "entries far away", x, y)
}
