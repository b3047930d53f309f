package plans_test

import (
	"fmt"
	"slices"
	"testing"

	"paternoster/api"
	"paternoster/plans"
)

// expect fails unless two values are written alike.
func expect(t *testing.T, what string, got, want any) {
	t.Helper()
	if g, w := fmt.Sprintf("%v", got), fmt.Sprintf("%v", want); g != w {
		t.Errorf("%s: %s, expected %s", what, g, w)
	}
}

func all(l ...any) []any { return l }

// rows returns rows for letters: a is the row 1 of type 0, A that of type 1.
func rows(s string) []plans.Row {
	var l []plans.Row
	for _, c := range s {
		if c >= 'a' {
			l = append(l, plans.Row{Key: uint64(c-'a') + 1})
		} else {
			l = append(l, plans.Row{Key: uint64(c-'A') + 1, Type: 1})
		}
	}
	return l
}

// of returns a plan that has to be possible; the pools are empty, the bounds 1 and 0.
func of(t *testing.T, old, now string) plans.Plan {
	t.Helper()
	p, e := plans.Of(rows(old), rows(now), []int{0, 0}, []int{1, 0})
	if e != api.OK {
		t.Fatal(e)
	}
	return p
}

func TestP36_1Check(t *testing.T) {
	many := make([]plans.Row, api.MaxItems+1)
	for i := range many {
		many[i].Key = uint64(i + 1)
	}
	for _, x := range []struct {
		l     []plans.Row
		types int
		e     api.Errno
	}{
		{nil, 1, 0}, {rows("abC"), 2, 0}, {many[1:], 8, 0}, {nil, 0, api.ErrArg}, {many, 9, api.ErrArg}, {many, -1, api.ErrArg}, {many, 1, api.ErrLimit}, {rows("abC"), 1, api.ErrArg}, {rows("aba"), 1, api.ErrTwice}, {rows("aA"), 2, api.ErrTwice},
		{[]plans.Row{{Type: 9}}, 2, api.ErrKey}, {[]plans.Row{{Key: 1}, {Key: 1, Type: 2}}, 2, api.ErrArg}, {[]plans.Row{{Key: 1}, {Key: 1}, {}}, 2, api.ErrTwice},
	} {
		expect(t, "Check", plans.Check(x.l, x.types), x.e)
	}
}

func TestP36_2Of(t *testing.T) {
	for _, x := range []struct {
		old, now      string
		pools, bounds []int
		want          string
	}{
		{"abc", "cad", []int{0, 0}, []int{1, 0}, "{[{1 false}] [{1 2 false} {1 0 true} {2 -1 false}]}"}, {"ab", "Ba", []int{0, 0}, []int{1, 0}, "{[{1 false}] [{3 -1 false} {1 0 false}]}"},
		{"abc", "d", []int{0, 0}, []int{1, 0}, "{[{0 false} {1 true} {2 true}] [{2 -1 false}]}"}, {"", "ab", []int{1, 0}, []int{1, 0}, "{[] [{2 -1 false} {3 -1 false}]}"}, {"ab", "", []int{1, 0}, []int{2, 0}, "{[{0 false} {1 true}] []}"},
		{"abcd", "dcba", []int{0, 0}, []int{1, 0}, "{[] [{1 3 false} {1 2 true} {1 1 true} {1 0 true}]}"}, {"", "", []int{0}, []int{0}, "{[] []}"}, {"aB", "Ab", []int{0, 0}, []int{1, 1}, "{[{0 false} {1 false}] [{2 -1 false} {2 -1 false}]}"},
	} {
		p, e := plans.Of(rows(x.old), rows(x.now), x.pools, x.bounds)
		expect(t, "Of "+x.old+" "+x.now, all(p, e, cap(p.Leaves) == len(p.Leaves), cap(p.Steps) == len(p.Steps)), all(x.want, 0, true, true))
	}
	eight, e := plans.Of(rows("a"), rows("b"), make([]int, 8), make([]int, 8))
	expect(t, "Of with as many types as there may be", all(eight.Drops(), eight.Makes(), e), all(1, 1, 0))
	pools := []int{0, 0}
	plans.Of(rows("a"), rows("b"), pools, []int{1, 0})
	expect(t, "the argument", pools, []int{0, 0})
	for _, x := range []struct {
		old, now      string
		pools, bounds []int
		e             api.Errno
	}{
		{"aa", "", nil, nil, api.ErrArg}, {"aa", "", make([]int, 9), make([]int, 9), api.ErrArg}, {"aa", "", []int{0}, []int{0, 0}, api.ErrArg}, {"aa", "", []int{2}, []int{1}, api.ErrArg}, {"aa", "", []int{-1}, []int{1}, api.ErrArg}, {"aa", "", []int{0}, []int{-1}, api.ErrArg},
		{"aa", "A", []int{0}, []int{0}, api.ErrTwice}, {"a", "bb", []int{0}, []int{0}, api.ErrTwice}, {"A", "bb", []int{0}, []int{0}, api.ErrArg},
	} {
		p, e := plans.Of(rows(x.old), rows(x.now), x.pools, x.bounds)
		expect(t, "Of", all(p, e), all(plans.Plan{}, x.e))
	}
}

func TestP36_3Ahead(t *testing.T) {
	expect(t, "Ahead", plans.Ahead(of(t, "abc", "cad")), []int{-1, -1, -1})
	expect(t, "Ahead", plans.Ahead(of(t, "abc", "dac")), []int{1, 2, -1})
	expect(t, "Ahead", plans.Ahead(plans.Plan{}), []int{})
	any := plans.Plan{Steps: []plans.Step{{What: 9}, {What: plans.Stay, Move: true}, {What: plans.Stay, Old: -7}, {What: plans.Make, Old: 3, Move: true}}}
	expect(t, "Ahead of any plan", plans.Ahead(any), []int{2, 2, -1, -1})
}

func TestP36_4Counts(t *testing.T) {
	p := plans.Plan{Leaves: []plans.Leave{{At: 5, Drop: true}, {}, {At: -3, Drop: true}}, Steps: []plans.Step{{What: 9, Move: true}, {What: plans.Stay}, {What: plans.Stay, Move: true}, {What: plans.Rebind, Move: true}, {What: plans.Make}, {What: plans.Make}, {What: plans.Make}}}
	expect(t, "counts", all(p.Stays(), p.Rebinds(), p.Makes(), p.Drops(), p.Moves()), all(2, 1, 3, 2, 3))
	p = plans.Plan{}
	expect(t, "counts", all(p.Stays(), p.Rebinds(), p.Makes(), p.Drops(), p.Moves()), all(0, 0, 0, 0, 0))
}

// TestP36_5Consequences carries plans out on lists.
func TestP36_5Consequences(t *testing.T) {
	seed := uint32(71)
	next := func(n int) int {
		seed = seed*1664525 + 1013904223
		return int(seed>>8) % n
	}
	draw := func() []plans.Row {
		var l []plans.Row
		for _, k := range []int{0, 1, 2, 3, 4, 5, 6, 7} {
			if next(3) > 0 {
				r := plans.Row{Key: uint64(k + 1), Type: uint8(next(4) / 3)}
				l = slices.Insert(l, next(len(l)+1), r)
			}
		}
		return l
	}
	for range 3000 {
		old, now := draw(), draw()
		pools, bounds := []int{next(2), next(2)}, []int{1 + next(2), 1 + next(3)}
		p, e := plans.Of(old, now, pools, bounds)
		if e != api.OK || len(p.Steps) != len(now) || p.Stays()+len(p.Leaves) != len(old) || p.Stays()+p.Rebinds()+p.Makes() != len(now) {
			t.Fatal(e, p)
		}
		list := slices.Clone(old)
		for _, l := range slices.Backward(p.Leaves) {
			list = slices.Delete(list, l.At, l.At+1)
		}
		ahead := plans.Ahead(p)
		for i, s := range p.Steps {
			if s.What == plans.Stay && old[s.Old] != now[i] {
				t.Fatal("another row stays")
			}
			if s.What == plans.Stay && !s.Move {
				continue
			}
			if s.What == plans.Stay {
				at := slices.Index(list, now[i])
				list = slices.Delete(list, at, at+1)
			}
			at := len(list)
			if ahead[i] >= 0 {
				at = slices.Index(list, now[ahead[i]])
			}
			list = slices.Insert(list, at, now[i])
		}
		if !slices.Equal(list, now) {
			t.Fatal(old, now, list, p)
		}
		pooled := pools[0] + pools[1] + len(p.Leaves) - p.Drops() - p.Rebinds()
		if pooled < 0 || pooled > bounds[0]+bounds[1] {
			t.Fatal("the pools", pooled)
		}
		same, _ := plans.Of(now, now, pools, bounds)
		expect(t, "the same rows", all(len(same.Leaves), same.Stays(), same.Moves()), all(0, len(now), 0))
	}
}
