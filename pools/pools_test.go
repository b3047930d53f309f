package pools_test

import (
	"fmt"
	"math"
	"slices"
	"testing"

	"paternoster/api"
	"paternoster/pools"
)

// expect fails unless two values are written alike.
func expect(t *testing.T, what string, got, want any) {
	t.Helper()
	if g, w := fmt.Sprint(got), fmt.Sprint(want); g != w {
		t.Errorf("%s: %s, expected %s", what, g, w)
	}
}

func all(l ...any) []any { return l }

type rows = pools.Pools[string]

// of returns pools with bounds and rows.
func of(bounds []int, l ...[]string) rows { return rows{Bounds: bounds, Rows: l} }

func bad() []rows {
	return []rows{
		{}, of([]int{}), of([]int{1}), of([]int{1}, nil, nil), of([]int{-1}, nil), of([]int{api.MaxArena + 1}, nil), of([]int{1, 0}, nil, []string{"x"}),
		of(make([]int, 9), make([][]string, 9)...), of([]int{math.MaxInt}, nil),
	}
}

func TestP21_1NewCheck(t *testing.T) {
	bounds := []int{1, 2}
	p, e := pools.New[string](bounds)
	bounds[0] = 9
	expect(t, "New", all(p, e, pools.Check(p)), all(of([]int{1, 2}, nil, nil), 0, 0))
	for _, b := range [][]int{{0}, {api.MaxArena}, make([]int, 8)} {
		p, e := pools.New[string](b)
		expect(t, "New", all(p.Bounds, len(p.Rows), e), all(b, len(b), 0))
	}
	for _, b := range [][]int{nil, {-1}, {1, api.MaxArena + 1}, make([]int, 9)} {
		expect(t, "New", all(pools.New[string](b)), all(rows{}, api.ErrArg))
	}
	expect(t, "Check", pools.Check(of([]int{1, 2}, []string{"x"}, []string{"y", "z"})), api.OK)
	for _, p := range bad() {
		expect(t, "Check", pools.Check(p), api.ErrArg)
		expect(t, "Push", all(pools.Push(p, -1, "x")), all(rows{}, false, api.ErrArg))
		expect(t, "Pop", all(pools.Pop(p, -1)), all(rows{}, "", false, api.ErrArg))
		expect(t, "Trim", all(pools.Trim(p, -1)), all(rows{}, "[]", api.ErrArg))
		expect(t, "Len", all(pools.Len(p, -1)), all(0, api.ErrArg))
		expect(t, "All", all(pools.All(p)), all("[]", api.ErrArg))
	}
}

func TestP21_2PushPop(t *testing.T) {
	p, _ := pools.New[string]([]int{1, 2})
	q, dropped, e := pools.Push(p, 0, "x")
	expect(t, "Push", all(q, dropped, e, p), all(of([]int{1, 2}, []string{"x"}, nil), false, 0, of([]int{1, 2}, nil, nil)))
	expect(t, "Push", all(pools.Push(q, 0, "y")), all(q, true, 0))
	q, _, _ = pools.Push(q, 1, "y")
	q, _, _ = pools.Push(q, 1, "z")
	expect(t, "Pop", all(pools.Pop(q, 1)), all(of([]int{1, 2}, []string{"x"}, []string{"y"}), "z", true, 0))
	expect(t, "Pop", all(pools.Pop(q, 0)), all(of([]int{1, 2}, nil, []string{"y", "z"}), "x", true, 0))
	expect(t, "Pop of none", all(pools.Pop(p, 0)), all(p, "", false, 0))
	for _, kind := range []int{-1, 2, math.MaxInt} {
		expect(t, "Push", all(pools.Push(p, kind, "x")), all(rows{}, false, api.ErrRange))
		expect(t, "Pop", all(pools.Pop(p, kind)), all(rows{}, "", false, api.ErrRange))
	}
	r, _, _, _ := pools.Pop(q, 0)
	r.Rows[1][0], r.Bounds[0] = "new", 9
	expect(t, "what was there", q, of([]int{1, 2}, []string{"x"}, []string{"y", "z"}))
}

func TestP21_3Trim(t *testing.T) {
	p := of([]int{3, 2, 0}, []string{"a", "b", "c"}, []string{"d", "e"}, nil)
	expect(t, "Trim", all(pools.Trim(p, 1)), all(of([]int{3, 2, 0}, []string{"c"}, []string{"e"}, nil), "[a b d]", 0))
	expect(t, "Trim", all(pools.Trim(p, 0)), all(of([]int{3, 2, 0}, nil, nil, nil), "[a b c d e]", 0))
	expect(t, "Trim", all(pools.Trim(p, math.MaxInt)), all(p, "[]", 0))
	expect(t, "Trim", all(pools.Trim(p, -1)), all(rows{}, "[]", api.ErrRange))
}

func TestP21_4LenAll(t *testing.T) {
	p := of([]int{3, 2}, []string{"a", "b", "c"}, []string{"d"})
	expect(t, "Len", all(pools.Len(p, 0)), all(3, 0))
	expect(t, "Len", all(pools.Len(p, 1)), all(1, 0))
	expect(t, "Len", all(pools.Len(p, 2)), all(0, api.ErrRange))
	expect(t, "All", all(pools.All(p)), all("[a b c d]", 0))
	l, _ := pools.All(p)
	l[0] = "new"
	expect(t, "All", all(p.Rows[0][0], cap(l)), all("a", 4))
}

func TestP21_5Consequences(t *testing.T) {
	seed := uint32(37)
	next := func(n int) int {
		seed = seed*1664525 + 1013904223
		return int(seed>>8) % n
	}
	p, _ := pools.New[string]([]int{4, 0, 2})
	var pushed, out []string
	for i := range 2000 {
		kind, x := next(3), fmt.Sprint(i)
		switch next(5) {
		case 0, 1, 2:
			q, dropped, _ := pools.Push(p, kind, x)
			pushed = append(pushed, x)
			if dropped {
				out = append(out, x)
			} else {
				before, y, _, _ := pools.Pop(q, kind)
				expect(t, "Pop of what was pushed", all(before, y), all(p, x))
				other := (kind + 1) % 3
				a, _, _ := pools.Push(q, other, "o")
				b, _, _ := pools.Push(p, other, "o")
				b, _, _ = pools.Push(b, kind, x)
				expect(t, "pushes of two types", a, b)
			}
			p = q
		case 3:
			q, x, found, _ := pools.Pop(p, kind)
			if found {
				out = append(out, x)
			}
			p = q
		default:
			same, none, _ := pools.Trim(p, 4)
			expect(t, "Trim to the greatest bound", all(same, none), all(p, "[]"))
			if next(5) == 0 {
				q, gone, _ := pools.Trim(p, next(3))
				out = append(out, gone...)
				p = q
			}
		}
		if pools.Check(p) != api.OK {
			t.Fatal("pools are not valid")
		}
	}
	left, _ := pools.All(p)
	out = append(out, left...)
	slices.Sort(out)
	slices.Sort(pushed)
	if !slices.Equal(out, pushed) {
		t.Error("rows are lost, or there twice")
	}
}
