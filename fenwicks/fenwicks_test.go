package fenwicks_test

import (
	"fmt"
	"math"
	"slices"
	"testing"

	"paternoster/api"
	"paternoster/fenwicks"
)

// expect fails unless two values are written alike.
func expect(t *testing.T, what string, got, want any) {
	t.Helper()
	if g, w := fmt.Sprint(got), fmt.Sprint(want); g != w {
		t.Errorf("%s: %s, expected %s", what, g, w)
	}
}

func all(l ...any) []any { return l }

// tree returns a tree that has to be possible.
func tree(t *testing.T, sizes ...int64) *fenwicks.Tree {
	t.Helper()
	x, e := fenwicks.New(sizes)
	if e != api.OK || x == nil {
		t.Fatalf("New(%v): error %d", sizes, e)
	}
	return x
}

func TestP2_1CheckAndNew(t *testing.T) {
	const h = api.MaxHeight
	for i, x := range []struct {
		sizes []int64
		e     api.Errno
	}{
		{nil, 0}, {[]int64{0}, 0}, {[]int64{h, h}, 0}, {[]int64{h, h, 0}, 0},
		{[]int64{-1}, api.ErrHeight}, {[]int64{h + 1}, api.ErrHeight}, {[]int64{math.MinInt64}, api.ErrHeight},
		{[]int64{math.MaxInt64}, api.ErrHeight}, {[]int64{h, h, 1}, api.ErrOverflow},
		{[]int64{h, h, -1, 1}, api.ErrHeight}, {[]int64{h, h, 1, -1}, api.ErrOverflow},
		{[]int64{h, h, h + 1}, api.ErrHeight},
		{make([]int64, api.MaxList), 0}, {make([]int64, api.MaxList+1), api.ErrLimit},
		{append([]int64{-1}, make([]int64, api.MaxList)...), api.ErrLimit},
	} {
		before := slices.Clone(x.sizes)
		got, e := fenwicks.New(x.sizes)
		if f := fenwicks.Check(x.sizes); e != x.e || f != x.e || (got != nil) != (e == api.OK) {
			t.Errorf("%d: errors %d and %d, expected %d", i, e, f, x.e)
		}
		expect(t, "the argument", x.sizes, before)
	}
}

func TestP2_2LenTotalList(t *testing.T) {
	for _, sizes := range [][]int64{nil, {0}, {7}, {3, 0, 5, 2}, {api.MaxHeight, 0, api.MaxHeight}} {
		x := tree(t, sizes...)
		sum := int64(0)
		for _, s := range sizes {
			sum += s
		}
		expect(t, "Len, Total, List", all(x.Len(), x.Total(), x.List()), all(len(sizes), sum, sizes))
		if l := x.List(); len(l) > 0 {
			if cap(l) != len(l) {
				t.Error("spare capacity")
			}
			l[0] = 99
			sizes2 := x.List()
			expect(t, "List after a change of a result", sizes2, sizes)
			sizes[0]++
			expect(t, "List after a change of the argument", x.List(), sizes2)
		}
	}
}

func TestP2_3AtAndSum(t *testing.T) {
	x := tree(t, 3, 0, 5, 2)
	for i, want := range []int64{3, 0, 5, 2} {
		expect(t, "At", all(x.At(i)), all(want, api.OK))
	}
	for i, want := range []int64{0, 3, 3, 8, 10} {
		expect(t, "Sum", all(x.Sum(i)), all(want, api.OK))
	}
	for _, i := range []int{-1, 5, math.MinInt, math.MaxInt} {
		expect(t, "Sum", all(x.Sum(i)), all(0, api.ErrRange))
		expect(t, "At", all(x.At(i)), all(0, api.ErrRange))
	}
	expect(t, "At(4)", all(x.At(4)), all(0, api.ErrRange))
	expect(t, "Sum of no sizes", all(tree(t).Sum(0)), all(0, api.OK))
	expect(t, "At of no sizes", all(tree(t).At(0)), all(0, api.ErrRange))
}

func TestP2_4Set(t *testing.T) {
	x := tree(t, 3, 0, 5, 2)
	expect(t, "Set", x.Set(1, 4), api.OK)
	expect(t, "List, Total, Find", all(x.List(), x.Total()), all([]int64{3, 4, 5, 2}, 14))
	for _, y := range []struct {
		i    int
		size int64
		e    api.Errno
	}{
		{-1, 0, api.ErrRange}, {4, 0, api.ErrRange}, {4, -1, api.ErrRange}, {0, -1, api.ErrHeight},
		{0, api.MaxHeight + 1, api.ErrHeight}, {math.MaxInt, math.MaxInt64, api.ErrRange},
	} {
		expect(t, "Set", x.Set(y.i, y.size), y.e)
		expect(t, "List", x.List(), []int64{3, 4, 5, 2})
	}
	expect(t, "Set to the ends of the range", all(x.Set(0, 0), x.Set(0, api.MaxHeight), x.Total()), all(0, 0, api.MaxHeight+11))
	full := tree(t, api.MaxHeight, api.MaxHeight-1, 1)
	expect(t, "Set beyond the total", full.Set(2, 2), api.ErrOverflow)
	expect(t, "Set to the greatest total", full.Set(2, 1), api.OK)
	expect(t, "Set", all(full.Set(0, 0), full.Set(2, api.MaxHeight), full.Total()), all(0, 0, api.MaxTotal-1))
}

func TestP2_5Find(t *testing.T) {
	x := tree(t, 3, 0, 5, 2)
	for offset, want := range [][2]int{{0, 0}, {0, 1}, {0, 2}, {2, 0}, {2, 1}, {2, 2}, {2, 3}, {2, 4}, {3, 0}, {3, 1}} {
		expect(t, "Find", all(x.Find(int64(offset))), all(want[0], want[1], api.OK))
	}
	for _, offset := range []int64{-1, 10, math.MinInt64, math.MaxInt64} {
		expect(t, "Find", all(x.Find(offset)), all(0, 0, api.ErrRange))
	}
	expect(t, "Find in no sizes", all(tree(t).Find(0)), all(0, 0, api.ErrRange))
	expect(t, "Find in sizes of 0", all(tree(t, 0, 0).Find(0)), all(0, 0, api.ErrRange))
	expect(t, "Find", all(tree(t, 0, 0, 1).Find(0)), all(2, 0, api.OK))
	expect(t, "Find", all(tree(t, api.MaxHeight, api.MaxHeight).Find(api.MaxTotal-1)), all(1, api.MaxHeight-1, api.OK))
}

// TestP2_6Consequences changes sizes of lists of many lengths by a fixed rule.
func TestP2_6Consequences(t *testing.T) {
	seed := uint32(7)
	next := func(n uint32) uint32 {
		seed = seed*1664525 + 1013904223
		return seed >> 8 % n
	}
	for _, n := range []int{1, 2, 3, 7, 8, 9, 64, 100, api.MaxList} {
		sizes := make([]int64, n)
		x := tree(t, sizes...)
		for range min(n, 60) {
			i := int(next(uint32(n)))
			sizes[i] = int64(next(4))
			if e := x.Set(i, sizes[i]); e != api.OK {
				t.Fatal(e)
			}
		}
		expect(t, "List", x.List(), sizes)
		sum := int64(0)
		for i, size := range sizes {
			got, _ := x.Sum(i)
			at, _ := x.At(i)
			if got != sum || at != size {
				t.Fatalf("Sum(%d) of %d sizes: %d, expected %d", i, n, got, sum)
			}
			for rest := range size {
				expect(t, "Find", all(x.Find(sum+rest)), all(i, rest, api.OK))
			}
			sum += size
		}
		expect(t, "Total", x.Total(), sum)
	}
}

func TestNilAndZero(t *testing.T) {
	for _, x := range []*fenwicks.Tree{nil, {}} {
		expect(t, "Len, Total, List", all(x.Len(), x.Total(), len(x.List())), all(0, 0, 0))
		expect(t, "At", all(x.At(0)), all(0, api.ErrNil))
		expect(t, "Sum", all(x.Sum(-1)), all(0, api.ErrNil))
		expect(t, "Set", x.Set(0, -1), api.ErrNil)
		expect(t, "Find", all(x.Find(0)), all(0, 0, api.ErrNil))
	}
}
