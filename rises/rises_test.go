package rises_test

import (
	"fmt"
	"math"
	"slices"
	"testing"

	"paternoster/api"
	"paternoster/rises"
)

// expect fails unless two values are written alike.
func expect(t *testing.T, what string, got, want any) {
	t.Helper()
	if g, w := fmt.Sprint(got), fmt.Sprint(want); g != w {
		t.Errorf("%s: %s, expected %s", what, g, w)
	}
}

func all(l ...any) []any { return l }

// least returns what P8.1 says, by looking at all subsequences.
func least(l []int) []int {
	var best []int
	for bits := range 1 << len(l) {
		var x []int
		rising := true
		for i := range l {
			if bits>>i&1 == 1 {
				rising = rising && (len(x) == 0 || l[x[len(x)-1]] < l[i])
				x = append(x, i)
			}
		}
		if rising && (len(x) > len(best) || len(x) == len(best) && slices.Compare(x, best) < 0) {
			best = x
		}
	}
	return best
}

// lists yields all lists of n numbers below most.
func lists(n, most int, yield func(l []int)) {
	l := make([]int, n)
	for {
		yield(l)
		i := 0
		for i < n && l[i] == most-1 {
			l[i] = 0
			i++
		}
		if i == n {
			return
		}
		l[i]++
	}
}

func TestP8_1Longest(t *testing.T) {
	for n := range 7 {
		lists(n, 4, func(l []int) {
			expect(t, fmt.Sprint("Longest ", l), all(rises.Longest(l)), all(least(l), 0))
		})
	}
	expect(t, "Longest", all(rises.Longest([]int{math.MaxInt, -5, math.MinInt, -5, 0})), all([]int{2, 3, 4}, 0))
	long := make([]int, api.MaxList)
	for i := range long {
		long[i] = i
	}
	l, e := rises.Longest(long)
	if !slices.Equal(l, long) || e != api.OK || cap(l) != len(l) {
		t.Error(len(l), e)
	}
	expect(t, "Longest of too many", all(rises.Longest(append(long, 5))), all([]int{}, api.ErrLimit))
}

func TestP8_2Check(t *testing.T) {
	for _, x := range []struct {
		l []int
		e api.Errno
	}{
		{nil, 0}, {[]int{0}, 0}, {[]int{3, 0, math.MaxInt}, 0}, {[]int{-1}, api.ErrArg}, {[]int{1, 1}, api.ErrTwice},
		{[]int{1, 1, -1}, api.ErrTwice}, {[]int{1, -1, -1}, api.ErrArg}, {[]int{math.MinInt}, api.ErrArg},
		{make([]int, api.MaxList+1), api.ErrLimit}, {make([]int, api.MaxList), api.ErrTwice},
	} {
		expect(t, "Check", rises.Check(x.l), x.e)
		_, e := rises.Kept(x.l, nil)
		_, f := rises.Moves(x.l, []int{-1})
		_, g := rises.Carry(x.l, nil)
		want, wantF := x.e, x.e
		if x.e == api.OK {
			wantF = api.ErrArg
			if len(x.l) > 0 {
				want = api.ErrOrder
			}
		}
		expect(t, "Kept, Moves and Carry", all(e, f, g), all(want, wantF, x.e))
	}
}

func TestP8_3KeptMoves(t *testing.T) {
	for _, x := range []struct {
		old, now, kept []int
		steps          []rises.Step
	}{
		{nil, nil, nil, nil},
		{[]int{1, 2, 3, 4}, []int{4, 1, 2, 3}, []int{1, 2, 3}, []rises.Step{{What: 4, Ahead: 1}}},
		{[]int{1, 2, 3}, []int{3, 2, 1}, []int{3}, []rises.Step{{What: 1, Ahead: -1}, {What: 2, Ahead: 1}}},
		{[]int{0, 7, 9}, []int{7, 9, 0}, []int{7, 9}, []rises.Step{{What: 0, Ahead: -1}}},
		{[]int{7, 0}, []int{7, 0}, []int{7, 0}, nil},
	} {
		expect(t, "Kept", all(rises.Kept(x.old, x.now)), all(x.kept, 0))
		expect(t, "Moves", all(rises.Moves(x.old, x.now)), all(x.steps, 0))
	}
	for _, x := range []struct {
		old, now []int
		e        api.Errno
	}{
		{[]int{1, 2}, []int{1, 3}, api.ErrOrder}, {[]int{1, 2}, []int{1}, api.ErrOrder}, {nil, []int{1}, api.ErrOrder},
		{[]int{1, 1}, []int{-1}, api.ErrTwice}, {[]int{1}, []int{1, -1}, api.ErrArg}, {[]int{1}, []int{2, 2}, api.ErrTwice},
	} {
		expect(t, "Kept", all(rises.Kept(x.old, x.now)), all([]int{}, x.e))
		expect(t, "Moves", all(rises.Moves(x.old, x.now)), all([]rises.Step{}, x.e))
	}
}

func TestP8_4Carry(t *testing.T) {
	s := func(what, ahead int) rises.Step { return rises.Step{What: what, Ahead: ahead} }
	for _, x := range []struct {
		l     []int
		steps []rises.Step
		want  []int
		e     api.Errno
	}{
		{[]int{1, 2, 3}, []rises.Step{s(1, -1), s(2, 1)}, []int{3, 2, 1}, 0},
		{[]int{1, 2, 3}, []rises.Step{s(3, -1), s(1, 2), s(3, 1)}, []int{3, 1, 2}, 0},
		{nil, nil, nil, 0},
		{nil, []rises.Step{s(1, -1)}, nil, api.ErrNone},
		{[]int{1, 2}, []rises.Step{s(1, 1)}, nil, api.ErrArg},
		{[]int{1, 2}, []rises.Step{s(3, 3)}, nil, api.ErrNone},
		{[]int{1, 2}, []rises.Step{s(1, 9), s(1, 1)}, nil, api.ErrNone},
		{[]int{1, 2}, []rises.Step{s(1, -2)}, nil, api.ErrNone},
		{[]int{1, 2}, []rises.Step{s(-1, -1)}, nil, api.ErrNone},
		{[]int{1, 2}, slices.Repeat([]rises.Step{s(1, -1)}, api.MaxList), []int{2, 1}, 0},
		{[]int{1, 2}, slices.Repeat([]rises.Step{s(1, 1)}, api.MaxList+1), nil, api.ErrLimit},
		{[]int{1, 1}, slices.Repeat([]rises.Step{s(1, 1)}, api.MaxList+1), nil, api.ErrTwice},
	} {
		before := slices.Clone(x.l)
		expect(t, "Carry", all(rises.Carry(x.l, x.steps)), all(x.want, x.e))
		expect(t, "the argument", x.l, before)
	}
}

// TestP8_5Consequences goes through all orders of six numbers.
func TestP8_5Consequences(t *testing.T) {
	old := []int{4, 0, 5, 1, 3, 2}
	var now []int
	var visit func()
	visit = func() {
		if len(now) < len(old) {
			for n := range len(old) {
				if !slices.Contains(now, n) {
					now = append(now, n)
					visit()
					now = now[:len(now)-1]
				}
			}
			return
		}
		steps, e := rises.Moves(old, now)
		kept, f := rises.Kept(old, now)
		expect(t, "Carry", all(rises.Carry(old, steps)), all(now, e|f))
		var places []int
		for _, n := range now {
			places = append(places, slices.Index(old, n))
		}
		if len(steps) != len(now)-len(kept) || len(kept) != len(least(places)) || slices.Equal(old, now) && len(steps) > 0 {
			t.Errorf("%v: %v, kept %v", now, steps, kept)
		}
	}
	visit()
}
