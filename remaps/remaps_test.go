package remaps_test

import (
	"fmt"
	"math"
	"slices"
	"testing"

	"paternoster/api"
	"paternoster/remaps"
)

// expect fails unless two values are written alike.
func expect(t *testing.T, what string, got, want any) {
	t.Helper()
	if g, w := fmt.Sprint(got), fmt.Sprint(want); g != w {
		t.Errorf("%s: %s, expected %s", what, g, w)
	}
}

func all(l ...any) []any { return l }

func of(old int, from ...int) remaps.Map { return remaps.Map{Old: old, From: from} }

var none = of(0)

func TestP9_1Check(t *testing.T) {
	long := make([]int, api.MaxList+1)
	for _, x := range []struct {
		m remaps.Map
		e api.Errno
	}{
		{of(0), 0}, {of(3, 2, 0, -1, -1, 1), 0}, {of(api.MaxList), 0}, {of(1, -1, -1), 0},
		{of(-1), api.ErrArg}, {of(math.MinInt, long...), api.ErrArg},
		{of(api.MaxList + 1), api.ErrLimit}, {of(1, long...), api.ErrLimit}, {of(math.MaxInt), api.ErrLimit},
		{of(2, 2), api.ErrRange}, {of(2, -2), api.ErrRange}, {of(2, 0, 0), api.ErrTwice}, {of(2, 0, 0, 5), api.ErrTwice},
		{of(2, 0, 5, 0), api.ErrRange}, {of(0, 0), api.ErrRange}, {of(5, math.MaxInt), api.ErrRange},
	} {
		expect(t, "Check", remaps.Check(x.m), x.e)
		if x.e == api.OK {
			continue
		}
		expect(t, "Compose", all(remaps.Compose(x.m, of(-1))), all(none, x.e))
		expect(t, "Compose", all(remaps.Compose(of(0), x.m)), all(none, x.e))
		expect(t, "Invert", all(remaps.Invert(x.m)), all(none, x.e))
		expect(t, "At", all(remaps.At(x.m, -1)), all(0, x.e))
		expect(t, "Gone", all(remaps.Gone(x.m)), all([]int{}, x.e))
		expect(t, "Carry", all(remaps.Carry(x.m, []string{"x"})), all([]string{}, x.e))
	}
}

func TestP9_2Makers(t *testing.T) {
	expect(t, "Same", all(remaps.Same(3)), all(of(3, 0, 1, 2), 0))
	expect(t, "Same", all(remaps.Same(0)), all(of(0), 0))
	expect(t, "Inserted", all(remaps.Inserted(3, 1, 2)), all(of(3, 0, -1, -1, 1, 2), 0))
	expect(t, "Inserted", all(remaps.Inserted(3, 3, 1)), all(of(3, 0, 1, 2, -1), 0))
	expect(t, "Inserted", all(remaps.Inserted(3, 3, 0)), all(of(3, 0, 1, 2), 0))
	expect(t, "Removed", all(remaps.Removed(4, 1, 2)), all(of(4, 0, 3), 0))
	expect(t, "Removed", all(remaps.Removed(4, 0, 4)), all(of(4), 0))
	expect(t, "Moved", all(remaps.Moved(4, 0, 1, 2)), all(of(4, 1, 2, 0, 3), 0))
	expect(t, "Moved", all(remaps.Moved(4, 2, 2, 0)), all(of(4, 2, 3, 0, 1), 0))
	for _, n := range []int{-1, api.MaxList + 1, math.MinInt, math.MaxInt} {
		expect(t, "Same", all(remaps.Same(n)), all(none, api.ErrRange))
		expect(t, "Inserted", all(remaps.Inserted(n, 0, 0)), all(none, api.ErrRange))
		expect(t, "Removed", all(remaps.Removed(n, 0, 0)), all(none, api.ErrRange))
		expect(t, "Moved", all(remaps.Moved(n, 0, 0, 0)), all(none, api.ErrRange))
	}
	for _, x := range [][2]int{{-1, 0}, {4, 0}, {0, -1}, {math.MaxInt, math.MaxInt}} {
		expect(t, "Inserted", all(remaps.Inserted(3, x[0], x[1])), all(none, api.ErrRange))
	}
	for _, x := range [][2]int{{-1, 0}, {4, 0}, {0, -1}, {2, 2}, {1, math.MaxInt}} {
		expect(t, "Removed", all(remaps.Removed(3, x[0], x[1])), all(none, api.ErrRange))
		expect(t, "Moved", all(remaps.Moved(3, x[0], x[1], 0)), all(none, api.ErrRange))
	}
	expect(t, "Moved", all(remaps.Moved(3, 0, 2, 2)), all(none, api.ErrRange))
	expect(t, "Moved", all(remaps.Moved(3, 0, 2, -1)), all(none, api.ErrRange))
	expect(t, "Inserted", all(remaps.Inserted(1, 0, api.MaxList)), all(none, api.ErrLimit))
	expect(t, "Inserted", all(remaps.Inserted(1, 0, math.MaxInt)), all(none, api.ErrLimit))
	expect(t, "Inserted", all(remaps.Inserted(1, -1, math.MaxInt)), all(none, api.ErrRange))
	for _, n := range []int{0, api.MaxList} {
		same, e := remaps.Same(n)
		expect(t, "Same at the limits", all(len(same.From), same.Old, e), all(n, n, 0))
		in, e := remaps.Inserted(n, n, 0)
		out, f := remaps.Removed(n, 0, n)
		moved, g := remaps.Moved(n, 0, n, 0)
		expect(t, "maps at the limits", all(len(in.From), e, len(out.From), f, len(moved.From), g, remaps.Check(moved)), all(n, 0, 0, 0, n, 0, 0))
	}
	m, e := remaps.Inserted(1, 0, api.MaxList-1)
	expect(t, "Inserted to the limit", all(len(m.From), e), all(api.MaxList, 0))
}

func TestP9_3Compose(t *testing.T) {
	a, _ := remaps.Inserted(3, 1, 2)
	b, _ := remaps.Removed(5, 0, 2)
	expect(t, "Compose", all(remaps.Compose(a, b)), all(of(3, -1, 1, 2), 0))
	expect(t, "Compose", all(remaps.Compose(of(2, 0), of(2, 0))), all(none, api.ErrOrder))
	expect(t, "Compose", all(remaps.Compose(of(2, 0, 9), of(2, 0, 0))), all(none, api.ErrRange))
}

func TestP9_4Invert(t *testing.T) {
	expect(t, "Invert", all(remaps.Invert(of(4, 0, 3))), all(of(2, 0, -1, -1, 1), 0))
	expect(t, "Invert", all(remaps.Invert(of(2, -1, 1, -1))), all(of(3, -1, 1), 0))
	expect(t, "Invert", all(remaps.Invert(of(0))), all(of(0), 0))
}

func TestP9_5AtGone(t *testing.T) {
	m := of(4, 0, 3)
	expect(t, "At", all(remaps.At(m, 3)), all(1, 0))
	expect(t, "At", all(remaps.At(m, 1)), all(0, api.ErrNone))
	expect(t, "At", all(remaps.At(m, 0)), all(0, 0))
	for _, i := range []int{-1, 4, math.MinInt, math.MaxInt} {
		expect(t, "At", all(remaps.At(m, i)), all(0, api.ErrRange))
	}
	expect(t, "Gone", all(remaps.Gone(m)), all([]int{1, 2}, 0))
	expect(t, "Gone", all(remaps.Gone(of(2, 1, 0))), all([]int{}, 0))
}

func TestP9_6Carry(t *testing.T) {
	expect(t, "Carry", all(remaps.Carry(of(3, 2, -1, 0), []string{"a", "b", "c"})), all([]string{"c", "", "a"}, 0))
	expect(t, "Carry", all(remaps.Carry(of(3, 2), []string{"a"})), all([]string{}, api.ErrOrder))
	expect(t, "Carry", all(remaps.Carry[int](of(0, -1), nil)), all([]int{0}, 0))
}

// TestP9_7Consequences goes through maps of lists of a few elements.
func TestP9_7Consequences(t *testing.T) {
	var maps []remaps.Map
	for at := range 4 {
		for many := range 4 {
			if m, e := remaps.Inserted(3, at, many); e == api.OK {
				maps = append(maps, m)
			}
			if m, e := remaps.Removed(3, at, many); e == api.OK {
				maps = append(maps, m)
			}
			for to := range 4 {
				m, e := remaps.Moved(3, at, many, to)
				if e != api.OK {
					continue
				}
				maps = append(maps, m)
				back, _ := remaps.Moved(3, to, many, at)
				same, _ := remaps.Same(3)
				expect(t, "a move and its inverse", all(remaps.Compose(m, back)), all(same, 0))
				inverse, _ := remaps.Invert(m)
				expect(t, "Invert of a move", inverse, back)
				expect(t, "Invert twice", all(remaps.Invert(inverse)), all(m, 0))
			}
		}
	}
	maps = append(maps, of(2, 1, -1, 0), of(4, 3, -1, 1), of(1, -1, 0, -1))
	for _, a := range maps {
		first, _ := remaps.Same(a.Old)
		last, _ := remaps.Same(len(a.From))
		expect(t, "Same is neutral", all(remaps.Compose(first, a)), all(a, 0))
		expect(t, "Same is neutral", all(remaps.Compose(a, last)), all(a, 0))
		l := []string{"a", "b", "c", "d", "e", "f"}[:a.Old]
		for _, b := range maps {
			ab, e := remaps.Compose(a, b)
			if e != api.OK {
				continue
			}
			once, _ := remaps.Carry(ab, l)
			x, _ := remaps.Carry(a, l)
			twice, _ := remaps.Carry(b, x)
			if !slices.Equal(once, twice) {
				t.Errorf("Carry of %v and %v: %v and %v", a, b, once, twice)
			}
			for _, c := range maps {
				bc, e := remaps.Compose(b, c)
				if e == api.OK {
					left, _ := remaps.Compose(ab, c)
					right, _ := remaps.Compose(a, bc)
					expect(t, "Compose is associative", left, right)
				}
			}
		}
	}
}
